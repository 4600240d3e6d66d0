/-
  Contracts and lemmas, many texts in one.
-/
import Derived.Deep.RegionHeld3
import Derived.Laws.CopyOwn
import Derived.Test.YtfeipfemknnhhaaPk1

namespace Go.Proofs.Ytfeipfemknnhhaa
open Go.RowKit

theorem wAt_apply (a k g : List Nat) (i : Nat) : wAt (bothE orN (bothE minN a k) g) i = orN (minN (wAt a i) (wAt k i)) (wAt g i) := by
  rw [bothE_at orN rfl, bothE_at minN rfl]
theorem fits_len {a : List Nat} {width : Int} (h : fitsE a width = true) : a.length = sizeE width := by
  unfold fitsE at h
  rw [Bool.and_eq_true, decide_eq_true_eq] at h
  exact h.1
theorem ct_sets {what width : Int} {g k : List Nat} {L : List CodeT} (h : checkT what width g k L = 0) (h3 : what ≠ 3) : isL what width = true ∧ fitsE g width = true ∧ fitsE k width = true := by
  unfold checkT at h
  split at h
  · next hL =>
    (try rw [if_neg h3] at h)
    split at h
    · next hh => exact ⟨hL, hh.1, hh.2.1⟩
    · omega
  · omega
theorem set_len {what width : Int} {a : List Nat} (h : valueE what width a = true) (h3 : what ≠ 3) : a.length = sizeE width := fits_len (value_fit h h3)
section
variable {what width : Int} {g k a b : List Nat} {L : List CodeT} (hg : ∀ z ∈ g, z < 18446744073709551616) (hk : ∀ z ∈ k, z < 18446744073709551616) (ha : ∀ z ∈ a, z < 18446744073709551616) (hb : ∀ z ∈ b, z < 18446744073709551616)
theorem apply_set (h3 : what ≠ 3) : applyE what width g k L a = bothE orN (bothE minN a k) g := by unfold applyE; rw [if_neg h3]
include hg hk ha in
theorem set_value (hc : checkT what width g k L = 0) (h3 : what ≠ 3) (va : valueE what width a = true) : valueE what width (applyE what width g k L a) = true := by
  obtain ⟨hL, fg, fk⟩ := ct_sets hc h3
  have la := set_len va h3
  have lg := fits_len fg
  have lk := fits_len fk
  rw [apply_set h3]
  have hl : (bothE orN (bothE minN a k) g).length = sizeE width := by rw [bothE_len, bothE_len]; omega
  unfold valueE
  rw [hL, hl, if_neg h3, show decide (sizeE width = wordsN what width) = true by rw [decide_eq_true_eq]; unfold wordsN; rw [if_pos hL, if_neg h3], Bool.true_and, Bool.true_and]
  refine fits_of (bothE_lt orN_lt (bothE_lt minN_lt ha hk) hg) hl fun i j hj => ?_
  rw [wAt_apply, or_bits, minN_bit _ _ _ (wAt_lt ha i) (wAt_lt hk i), Bool.or_eq_true, Bool.and_eq_true] at hj
  rcases hj with hj | hj
  · exact fits_bits ha (value_fit va h3) i j hj.1
  · exact fits_bits hg fg i j hj
include hk ha hb in
theorem set_join (hc : checkT what width g k L = 0) (h3 : what ≠ 3) (va : valueE what width a = true) (vb : valueE what width b = true) :
    applyE what width g k L (joinE what a b) = joinE what (applyE what width g k L a) (applyE what width g k L b) := by
  obtain ⟨hL, fg, fk⟩ := ct_sets hc h3
  have la := set_len va h3
  have lb' := set_len vb h3
  have lg := fits_len fg
  have lk := fits_len fk
  have lj := joinE_len what (a := a) (b := b) (by omega)
  rw [apply_set h3, apply_set h3, apply_set h3]
  have l1 : (bothE orN (bothE minN a k) g).length = sizeE width := by rw [bothE_len, bothE_len]; omega
  have l2 : (bothE orN (bothE minN b k) g).length = sizeE width := by rw [bothE_len, bothE_len]; omega
  refine ext_at (by rw [joinE_len what (by omega), l1, bothE_len, bothE_len]; omega) fun i _ => ?_
  rw [wAt_apply, joinE_at, joinE_at, wAt_apply, wAt_apply]
  have x := wAt_lt ha i
  have y := wAt_lt hb i
  have z := wAt_lt hk i
  have w := wordE_lt what _ _ x y
  rcases isL_what hL with rfl | rfl | rfl
  · refine Nat.eq_of_testBit_eq fun j => ?_
    show (orN (minN (orN (wAt a i) (wAt b i)) (wAt k i)) (wAt g i)).testBit j = (orN (orN (minN (wAt a i) (wAt k i)) (wAt g i)) (orN (minN (wAt b i) (wAt k i)) (wAt g i))).testBit j
    rw [or_bits, or_bits, or_bits, or_bits, minN_bit _ _ _ (orN_lt _ _ x y) z, minN_bit _ _ _ x z, minN_bit _ _ _ y z, or_bits]
    cases (wAt a i).testBit j <;> cases (wAt b i).testBit j <;> cases (wAt k i).testBit j <;> cases (wAt g i).testBit j <;> rfl
  · refine Nat.eq_of_testBit_eq fun j => ?_
    show (orN (minN (andN (wAt a i) (wAt b i)) (wAt k i)) (wAt g i)).testBit j = (andN (orN (minN (wAt a i) (wAt k i)) (wAt g i)) (orN (minN (wAt b i) (wAt k i)) (wAt g i))).testBit j
    rw [or_bits, and_bits, or_bits, or_bits, minN_bit _ _ _ (andN_lt _ _ x y) z, minN_bit _ _ _ x z, minN_bit _ _ _ y z, and_bits]
    cases (wAt a i).testBit j <;> cases (wAt b i).testBit j <;> cases (wAt k i).testBit j <;> cases (wAt g i).testBit j <;> rfl
  · exact absurd rfl h3
end

/-! ### Words that are known -/
def kle' (x y : Int) : Prop := x = y ∨ x = 0 ∨ y = 1
theorem rr_up' {op x y x' y' : Int} (h : kle' x x') (k : kle' y y') : kle' (rr op x y) (rr op x' y') := by
  by_cases h0 : x = 0 ∨ y = 0
  · rw [rr_zero h0]; exact .inr (.inl rfl)
  · by_cases h1 : x' = 1 ∨ y' = 1
    · by_cases h2 : x' = 0 ∨ y' = 0
      · unfold kle' at h k; omega
      · rw [rr_one h2 h1]; exact .inr (.inr rfl)
    · have e1 : x = x' := by unfold kle' at h; omega
      have e2 : y = y' := by unfold kle' at k; omega
      rw [e1, e2]; exact .inl rfl
theorem cop_up' {op a b c d : Int} (h : kle' (sou a) (sou b)) (k : kle' (sou c) (sou d)) : kle' (cop op a c) (cop op b d) := by
  rw [cop_rr, cop_rr]
  split
  · exact rr_up' h (.inl rfl)
  · exact rr_up' h k
theorem word_isn' (a b : Int) : isn (2 + 4 * word a b) = true := by
  have := word_bd a b
  simp [isn]; omega
theorem rr_sou' (op x y : Int) : sou (rr op x y) = rr op x y := by
  unfold rr
  split
  · decide
  · split
    · decide
    · split
      · exact sou_isn (word_isn' _ _)
      · decide
theorem cop_sou' (op a b : Int) : sou (cop op a b) = cop op a b := by rw [cop_rr, rr_sou']
theorem word_kle {x y : Nat} (hx : x < 18446744073709551616) (hy : y < 18446744073709551616) (sx : sou (x : Int) = x) (sy : sou (y : Int) = y) : wordE 3 x y = y ↔ kle' (x : Int) (y : Int) := by
  have h := word3 hx hy
  constructor
  · intro e
    rw [e] at h
    unfold cjoin at h
    rw [sx, sy] at h
    unfold kle'
    split at h <;> (try split at h) <;> omega
  · intro e
    refine Int.ofNat_inj.1 (h.trans ?_)
    unfold cjoin
    rw [sx, sy]
    unfold kle' at e
    split <;> (try split) <;> omega
/-- A row of words that count. -/
def Snd (a : List Nat) : Prop := (∀ z ∈ a, z < 18446744073709551616) ∧ ∀ i, sou (wAt a i : Nat) = (wAt a i : Nat)
theorem wAt_set (a : List Nat) (v z i : Nat) : wAt (a.set v z) i = if i = v ∧ v < a.length then z else wAt a i := by
  by_cases h : i = v
  · subst h
    by_cases hl : i < a.length
    · rw [if_pos ⟨rfl, hl⟩, wAt_set_self _ _ _ hl]
    · rw [if_neg (fun h => hl h.2), List.set_eq_of_length_le (by omega)]
  · rw [if_neg (fun e => h e.1), wAt_set_ne _ _ _ _ h]
theorem sou_word (a b : Int) : sou (2 + 4 * word a b) = 2 + 4 * word a b := sou_isn (word_isn' a b)
theorem wordR_up {a b : List Nat} (sa : Snd a) (sb : Snd b) (h : ∀ i, kle' (wAt a i : Nat) (wAt b i : Nat)) (v re im : Int) : kle' (sou (wordR a v re im : Nat)) (sou (wordR b v re im : Nat)) := by
  unfold wordR
  split
  · exact .inl rfl
  · rw [sa.2, sb.2]; exact h _
theorem step_up {a b : List Nat} (c : CodeT) (hl : a.length = b.length) (sa : Snd a) (sb : Snd b) (h : ∀ i, kle' (wAt a i : Nat) (wAt b i : Nat)) :
    Snd (codeStep a c) ∧ Snd (codeStep b c) ∧ ∀ i, kle' (wAt (codeStep a c) i : Nat) (wAt (codeStep b c) i : Nat) := by
  have ca := cop_lt c.o (wordR a c.av c.ar c.ai) (wordR a c.bv c.br c.bi)
  have cb := cop_lt c.o (wordR b c.av c.ar c.ai) (wordR b c.bv c.br c.bi)
  have ga := cop_sou' c.o (wordR a c.av c.ar c.ai) (wordR a c.bv c.br c.bi)
  have gb := cop_sou' c.o (wordR b c.av c.ar c.ai) (wordR b c.bv c.br c.bi)
  have up := cop_up' (op := c.o) (wordR_up sa sb h c.av c.ar c.ai) (wordR_up sa sb h c.bv c.br c.bi)
  refine ⟨⟨codeStep_lt sa.1 c, fun i => ?_⟩, ⟨codeStep_lt sb.1 c, fun i => ?_⟩, fun i => ?_⟩
  · unfold codeStep
    rw [wAt_set]
    split
    · split
      · decide
      · rw [Int.toNat_of_nonneg ca.1, ga]
    · exact sa.2 i
  · unfold codeStep
    rw [wAt_set]
    split
    · split
      · decide
      · rw [Int.toNat_of_nonneg cb.1, gb]
    · exact sb.2 i
  · unfold codeStep
    rw [wAt_set, wAt_set, hl]
    split
    · split
      · exact .inl rfl
      · rw [Int.toNat_of_nonneg ca.1, Int.toNat_of_nonneg cb.1]; exact up
    · exact h i
theorem doK_up (L : List CodeT) (k : Nat) : ∀ {a b : List Nat}, a.length = b.length → Snd a → Snd b → (∀ i, kle' (wAt a i : Nat) (wAt b i : Nat)) → Snd (doK a L k) ∧ Snd (doK b L k) ∧ ∀ i, kle' (wAt (doK a L k) i : Nat) (wAt (doK b L k) i : Nat) := by
  unfold doK
  generalize L.take k = m
  induction m with
  | nil => intro a b _ sa sb h; exact ⟨sa, sb, h⟩
  | cons c m ih =>
    intro a b hl sa sb h
    obtain ⟨s1, s2, h2⟩ := step_up c hl sa sb h
    exact ih (by rw [codeStep_len, codeStep_len, hl]) s1 s2 h2
section
variable {width : Int} {g k a b : List Nat} {L : List CodeT}
theorem snd_of (ha : ∀ z ∈ a, z < 18446744073709551616) (va : valueE 3 width a = true) : Snd a := ⟨ha, value_sou va rfl⟩
theorem value_of (hL : isL 3 width = true) (hl : a.length = width.toNat) (s : Snd a) : valueE 3 width a = true := by
  unfold valueE
  rw [hL, if_pos rfl, show decide (a.length = wordsN 3 width) = true by rw [decide_eq_true_eq, hl]; unfold wordsN; rw [if_pos hL, if_pos rfl], Bool.true_and, Bool.true_and]
  exact all_at fun i _ => by unfold souN; rw [beq_iff_eq]; exact s.2 i
theorem flat_value (ha : ∀ z ∈ a, z < 18446744073709551616) (va : valueE 3 width a = true) : valueE 3 width (applyE 3 width g k L a) = true := by
  have hL := value_is va
  unfold applyE
  rw [if_pos rfl]
  split
  · exact bottom_value hL
  · exact value_of hL (by rw [doK_len]; exact flat_len va) (doK_up L L.length rfl (snd_of ha va) (snd_of ha va) fun _ => .inl rfl).1
theorem flat_up (ha : ∀ z ∈ a, z < 18446744073709551616) (hb : ∀ z ∈ b, z < 18446744073709551616) (va : valueE 3 width a = true) (vb : valueE 3 width b = true) (h : belowE 3 a b = true) :
    belowE 3 (applyE 3 width g k L a) (applyE 3 width g k L b) = true := by
  have hL := value_is va
  have hl : a.length = b.length := by rw [flat_len va, flat_len vb]
  have sa := snd_of ha va
  have sb := snd_of hb vb
  rw [belowE_iff 3 hl] at h
  have hk : ∀ i, kle' (wAt a i : Nat) (wAt b i : Nat) := fun i => (word_kle (wAt_lt ha i) (wAt_lt hb i) (sa.2 i) (sb.2 i)).1 (h i)
  have vz : valueE 3 width (applyE 3 width g k L b) = true := flat_value hb vb
  have hz : ∀ z ∈ applyE 3 width g k L b, z < 18446744073709551616 := by
    unfold applyE; rw [if_pos rfl]; split
    · exact bottom_lt 3 width
    · exact doK_lt hb L L.length
  cases hza : a.any (fun z => z == 0) with
  | true =>
    have e : applyE 3 width g k L a = bottomE 3 width := by unfold applyE; rw [if_pos rfl, hza, if_pos rfl]
    rw [e]
    exact bottom_below hz vz
  | false =>
    have hzb : b.any (fun z => z == 0) = false := any_zero fun j hj e => by
      have h1 := hk j
      rw [e] at h1
      have h2 : wAt a j ≠ 0 := fun e2 => by
        have := any_one j (by omega) e2
        rw [hza] at this; cases this
      unfold kle' at h1
      omega
    have e1 : applyE 3 width g k L a = doK a L L.length := by unfold applyE; rw [if_pos rfl, hza, if_neg (by decide)]
    have e2 : applyE 3 width g k L b = doK b L L.length := by unfold applyE; rw [if_pos rfl, hzb, if_neg (by decide)]
    obtain ⟨s1, s2, h3⟩ := doK_up L L.length hl sa sb hk
    rw [e1, e2, belowE_iff 3 (by rw [doK_len, doK_len, hl])]
    exact fun i => (word_kle (wAt_lt s1.1 i) (wAt_lt s2.1 i) (s1.2 i) (s2.2 i)).2 (h3 i)
end
section
variable {what width : Int} {g k a b : List Nat} {L : List CodeT} (hg : ∀ z ∈ g, z < 18446744073709551616) (hk : ∀ z ∈ k, z < 18446744073709551616) (ha : ∀ z ∈ a, z < 18446744073709551616) (hb : ∀ z ∈ b, z < 18446744073709551616)
include hg hk ha
theorem apply_value (hc : checkT what width g k L = 0) (va : valueE what width a = true) : valueE what width (applyE what width g k L a) = true := by
  by_cases h3 : what = 3
  · subst h3; exact flat_value ha va
  · exact set_value hg hk ha hc h3 va
theorem apply_lt : ∀ z ∈ applyE what width g k L a, z < 18446744073709551616 := by
  unfold applyE
  split
  · split
    · exact bottom_lt 3 width
    · exact doK_lt ha L L.length
  · exact bothE_lt orN_lt (bothE_lt minN_lt ha hk) hg
include hb
/-- What is below what is put together comes below it. -/
theorem apply_up (hc : checkT what width g k L = 0) (va : valueE what width a = true) (vb : valueE what width b = true) : belowE what (applyE what width g k L a) (applyE what width g k L (joinE what a b)) = true := by
  by_cases h3 : what = 3
  · subst h3
    exact flat_up ha (join_lt ha hb) va (join_value ha hb va vb) (below_join ha hb va vb)
  · rw [set_join hk ha hb hc h3 va vb]
    exact below_join (apply_lt hg hk ha) (apply_lt hg hk hb) (set_value hg hk ha hc h3 va) (set_value hg hk hb hc h3 vb)
end

theorem apply_zero {what width : Int} {g k a : List Nat} {L : List CodeT} (hc : checkT what width g k L = 0) (va : valueE what width a = true) : applyC what width g k L a = 0 := by
  unfold applyC; rw [if_pos hc, va, if_pos rfl]
theorem apply_is {what width : Int} {g k a : List Nat} {L : List CodeT} (hc : checkT what width g k L = 0) (va : valueE what width a = true) : applyR what width g k L a = applyE what width g k L a := by
  unfold applyR; rw [apply_zero hc va, if_pos rfl]

end Go.Proofs.Ytfeipfemknnhhaa

namespace Go.Proofs.Ytfeipfemknnhhaa
open Go.RowKit

def nodeE (n v : Int) : Bool := decide (0 ≤ v) && decide (v < n)
def withinE (n : Int) (e : Int × Int) : Bool := nodeE n e.1 && nodeE n e.2
def rightE (n : Int) (E : List (Int × Int)) : Bool := (decide (1 ≤ n) && (decide (n ≤ 256) && decide (E.length ≤ 1024))) && E.all (withinE n)
def trC (what width : Int) (t : TrT) : Int := checkT what width t.g t.k t.l
def trOk (what width : Int) (t : TrT) : Bool := decide (trC what width t = 0)
def checkS (s : SysT) : Int :=
  if isL s.what s.width = true then
    if rightE s.nodes s.E = true ∧ (s.T.length : Int) = s.nodes ∧ s.N.all (nodeE s.nodes) = true then
      if valueE s.what s.width s.I = true ∧ s.T.all (trOk s.what s.width) = true then 0 else 2
    else 1
  else 10
def inE (l : List Int) (v : Int) : Bool := l.any (fun z => z == v)
def startE (s : SysT) (v : Int) : List Nat := if inE s.N v = true then s.I else bottomE s.what s.width
def applyT (s : SysT) (v : Nat) (a : List Nat) : List Nat := applyE s.what s.width (trAt s.T v).g (trAt s.T v).k (trAt s.T v).l a
/-- What comes along an edge. -/
def alongE (s : SysT) (a : List (List Nat)) (v : Int) (x : List Nat) (e : Int × Int) : List Nat := if e.2 = v then joinE s.what x (applyT s e.1.toNat (lsAt a e.1.toNat)) else x
def stepK (s : SysT) (a : List (List Nat)) (k : Nat) (v : Int) : List Nat := (s.E.take k).foldl (alongE s a v) (startE s v)
def stepE (s : SysT) (a : List (List Nat)) : List (List Nat) := (List.range s.nodes.toNat).map fun v : Nat => stepK s a s.E.length (v : Int)
def valuesE (s : SysT) (a : List (List Nat)) : Bool := decide ((a.length : Int) = s.nodes) && a.all (valueE s.what s.width)
def belowS (s : SysT) (a b : List (List Nat)) : Bool := decide (a.length = b.length) && (List.range a.length).all fun i => belowE s.what (lsAt a i) (lsAt b i)
def bottomS (s : SysT) : List (List Nat) := List.replicate s.nodes.toNat (bottomE s.what s.width)

theorem checkS_cases (s : SysT) : checkS s = 0 ∨ checkS s = 1 ∨ checkS s = 2 ∨ checkS s = 10 := by
  unfold checkS; split
  · split
    · split <;> simp
    · simp
  · simp
theorem nodeE_iff {n v : Int} : nodeE n v = true ↔ 0 ≤ v ∧ v < n := by unfold nodeE; rw [Bool.and_eq_true, decide_eq_true_eq, decide_eq_true_eq]

/-- A system that may be. -/
structure OkS (s : SysT) : Prop where
  is : isL s.what s.width = true
  n1 : 1 ≤ s.nodes
  n2 : s.nodes ≤ 256
  el : s.E.length ≤ 1024
  ed : ∀ j, j < s.E.length → 0 ≤ (edAt s.E j).1 ∧ (edAt s.E j).1 < s.nodes ∧ 0 ≤ (edAt s.E j).2 ∧ (edAt s.E j).2 < s.nodes
  tl : s.T.length = s.nodes.toNat
  en : s.N.all (nodeE s.nodes) = true
  iv : valueE s.what s.width s.I = true
  tr : ∀ j, j < s.T.length → checkT s.what s.width (trAt s.T j).g (trAt s.T j).k (trAt s.T j).l = 0
theorem all_get {α : Type} {p : α → Bool} {l : List α} (d : α) (h : l.all p = true) (j : Nat) (hj : j < l.length) : p (l[j]?.getD d) = true := by
  rw [List.getElem?_eq_getElem hj]
  exact List.all_eq_true.1 h _ (List.getElem_mem hj)
theorem all_of_get {α : Type} {p : α → Bool} {l : List α} (d : α) (h : ∀ j, j < l.length → p (l[j]?.getD d) = true) : l.all p = true := by
  rw [List.all_eq_true]
  intro z hz
  obtain ⟨i, hi, rfl⟩ := List.getElem_of_mem hz
  have := h i hi
  rwa [List.getElem?_eq_getElem hi] at this
theorem all_not_get {α : Type} {p : α → Bool} {l : List α} (d : α) (j : Nat) (hj : j < l.length) (h : p (l[j]?.getD d) = false) : l.all p = false := by
  rw [Bool.eq_false_iff]
  intro h2
  rw [all_get d h2 j hj] at h
  cases h
theorem okS_of {s : SysT} (h : checkS s = 0) : OkS s := by
  unfold checkS at h
  split at h
  · rename_i h1
    split at h
    · rename_i h2
      split at h
      · rename_i h3
        obtain ⟨hr, ht, hn⟩ := h2
        unfold rightE at hr
        simp only [Bool.and_eq_true, decide_eq_true_eq] at hr
        obtain ⟨⟨r1, r2, r3⟩, r4⟩ := hr
        refine ⟨h1, r1, r2, r3, fun j hj => ?_, by omega, hn, h3.1, fun j hj => ?_⟩
        · have := all_get (0, 0) r4 j hj
          unfold withinE at this
          rw [Bool.and_eq_true, nodeE_iff, nodeE_iff] at this
          exact ⟨this.1.1, this.1.2, this.2.1, this.2.2⟩
        · have := all_get ⟨[], [], []⟩ h3.2 j hj
          unfold trOk at this
          rw [decide_eq_true_eq] at this
          exact this
      · exact absurd h (by decide)
    · exact absurd h (by decide)
  · exact absurd h (by decide)

theorem stepK_zero (s : SysT) (a : List (List Nat)) (v : Int) : stepK s a 0 v = startE s v := by unfold stepK; rw [List.take_zero]; rfl
theorem stepK_succ (s : SysT) (a : List (List Nat)) (k : Nat) (v : Int) (h : k < s.E.length) : stepK s a (k + 1) v = alongE s a v (stepK s a k v) (edAt s.E k) := by
  unfold stepK edAt
  rw [List.take_succ_eq_append_getElem h, List.foldl_append, List.getElem?_eq_getElem h]
  rfl

/-- The words of a list fit. -/
def Lt64 (a : List Nat) : Prop := ∀ z ∈ a, z < 18446744073709551616
theorem start_value {s : SysT} (h : OkS s) (v : Int) : valueE s.what s.width (startE s v) = true := by
  unfold startE; split
  · exact h.iv
  · exact bottom_value h.is
theorem start_lt {s : SysT} (hI : Lt64 s.I) (v : Int) : Lt64 (startE s v) := by
  unfold startE; split
  · exact hI
  · exact bottom_lt _ _
/-- The lists of a system's Trans fit. -/
def LtS (s : SysT) : Prop := Lt64 s.I ∧ ∀ j, j < s.T.length → Lt64 (trAt s.T j).g ∧ Lt64 (trAt s.T j).k
theorem applyT_value {s : SysT} (h : OkS s) (hs : LtS s) {v : Nat} (hv : v < s.nodes.toNat) {a : List Nat} (ha : Lt64 a) (va : valueE s.what s.width a = true) : valueE s.what s.width (applyT s v a) = true := by
  have hv' : v < s.T.length := by rw [h.tl]; exact hv
  exact apply_value (hs.2 v hv').1 (hs.2 v hv').2 ha (h.tr v hv') va
theorem applyT_lt {s : SysT} (h : OkS s) (hs : LtS s) {v : Nat} (hv : v < s.nodes.toNat) {a : List Nat} (ha : Lt64 a) : Lt64 (applyT s v a) := by
  have hv' : v < s.T.length := by rw [h.tl]; exact hv
  exact apply_lt (hs.2 v hv').1 (hs.2 v hv').2 ha
theorem values_at {s : SysT} {a : List (List Nat)} (h : valuesE s a = true) (v : Nat) (hv : v < s.nodes.toNat) : valueE s.what s.width (lsAt a v) = true := by
  unfold valuesE at h
  rw [Bool.and_eq_true, decide_eq_true_eq] at h
  exact all_get [] h.2 v (by omega)
theorem values_len {s : SysT} {a : List (List Nat)} (h : valuesE s a = true) : a.length = s.nodes.toNat := by
  unfold valuesE at h
  rw [Bool.and_eq_true, decide_eq_true_eq] at h
  omega
def LtA (a : List (List Nat)) : Prop := ∀ j, j < a.length → Lt64 (lsAt a j)
theorem stepK_value {s : SysT} (h : OkS s) (hs : LtS s) {a : List (List Nat)} (ha : LtA a) (va : valuesE s a = true) (v : Int) : ∀ k, k ≤ s.E.length → valueE s.what s.width (stepK s a k v) = true ∧ Lt64 (stepK s a k v)
  | 0, _ => by rw [stepK_zero]; exact ⟨start_value h v, start_lt hs.1 v⟩
  | k + 1, hk => by
    have ih := stepK_value h hs ha va v k (by omega)
    rw [stepK_succ s a k v (by omega)]
    unfold alongE
    split
    · have e := h.ed k (by omega)
      have hu : (edAt s.E k).1.toNat < s.nodes.toNat := by omega
      have l1 := ha (edAt s.E k).1.toNat (by rw [values_len va]; exact hu)
      have v1 := values_at va _ hu
      have l2 := applyT_lt h hs hu l1
      have v2 := applyT_value h hs hu l1 v1
      exact ⟨join_value ih.2 l2 ih.1 v2, join_lt ih.2 l2⟩
    · exact ih
theorem step_at {s : SysT} {a : List (List Nat)} {v : Nat} (hv : v < s.nodes.toNat) : lsAt (stepE s a) v = stepK s a s.E.length (v : Int) := by
  unfold lsAt stepE
  rw [List.getElem?_map, List.getElem?_range hv]
  rfl
theorem step_len (s : SysT) (a : List (List Nat)) : (stepE s a).length = s.nodes.toNat := by simp [stepE]
theorem step_values {s : SysT} (h : OkS s) (hs : LtS s) {a : List (List Nat)} (ha : LtA a) (va : valuesE s a = true) : valuesE s (stepE s a) = true ∧ LtA (stepE s a) := by
  constructor
  · unfold valuesE
    rw [Bool.and_eq_true, decide_eq_true_eq, step_len]
    refine ⟨by have := h.n1; omega, all_of_get [] fun j hj => ?_⟩
    rw [step_len] at hj
    have := (stepK_value h hs ha va (j : Int) s.E.length (Nat.le_refl _)).1
    rw [← step_at hj] at this
    exact this
  · intro j hj
    rw [step_len] at hj
    rw [step_at hj]
    exact (stepK_value h hs ha va (j : Int) s.E.length (Nat.le_refl _)).2

/-! ### A Step rises -/
section
variable {what width : Int} {a b c d : List Nat}
theorem below_eq (h : belowE what a b = true) : joinE what a b = b := by unfold belowE at h; exact of_decide_eq_true h
theorem below_of (h : joinE what a b = b) : belowE what a b = true := by unfold belowE; exact decide_eq_true h
theorem below_refl (ha : Lt64 a) (va : valueE what width a = true) : belowE what a a = true := by
  rw [belowE_iff what rfl]
  intro i
  rcases isL_what (value_is va) with rfl | rfl | rfl
  · show orN (wAt a i) (wAt a i) = wAt a i
    unfold orN; rw [Nat.or_self]
  · show andN (wAt a i) (wAt a i) = wAt a i
    unfold andN; rw [Nat.and_self]
  · have s1 := value_sou va rfl i
    rw [word_kle (wAt_lt ha i) (wAt_lt ha i) s1 s1]
    exact .inl rfl
theorem below_trans (ha : Lt64 a) (hb : Lt64 b) (hc : Lt64 c) (va : valueE what width a = true) (vb : valueE what width b = true) (vc : valueE what width c = true) (h : belowE what a b = true) (k : belowE what b c = true) : belowE what a c = true := by
  have la := value_len va
  have lb := value_len vb
  have lc := value_len vc
  rw [belowE_iff what (by omega)] at h k ⊢
  intro i
  have h := h i
  have k := k i
  rcases isL_what (value_is va) with rfl | rfl | rfl
  · have h : orN (wAt a i) (wAt b i) = wAt b i := h
    have k : orN (wAt b i) (wAt c i) = wAt c i := k
    show orN (wAt a i) (wAt c i) = wAt c i
    unfold orN at *
    rw [← k, ← Nat.or_assoc, h]
  · have h : andN (wAt a i) (wAt b i) = wAt b i := h
    have k : andN (wAt b i) (wAt c i) = wAt c i := k
    show andN (wAt a i) (wAt c i) = wAt c i
    unfold andN at *
    rw [← k, ← Nat.and_assoc, h]
  · have s1 := value_sou va rfl i
    have s2 := value_sou vb rfl i
    have s3 := value_sou vc rfl i
    rw [word_kle (wAt_lt ha i) (wAt_lt hb i) s1 s2] at h
    rw [word_kle (wAt_lt hb i) (wAt_lt hc i) s2 s3] at k
    rw [word_kle (wAt_lt ha i) (wAt_lt hc i) s1 s3]
    unfold kle' at *
    omega
theorem join_up (ha : Lt64 a) (hb : Lt64 b) (hc : Lt64 c) (hd : Lt64 d) (va : valueE what width a = true) (vb : valueE what width b = true) (vc : valueE what width c = true) (vd : valueE what width d = true) (h : belowE what a c = true) (k : belowE what b d = true) : belowE what (joinE what a b) (joinE what c d) = true := by
  have hj := join_lt (what := what) hc hd
  have vj := join_value hc hd vc vd
  refine join_least' ha hb hj va vb vj ?_ ?_
  · exact below_trans ha hc hj va vc vj h (below_join hc hd vc vd)
  · exact below_trans hb hd hj vb vd vj k (by rw [join_comm]; exact below_join hd hc vd vc)
end
theorem applyT_up {s : SysT} (h : OkS s) (hs : LtS s) {v : Nat} (hv : v < s.nodes.toNat) {a b : List Nat} (ha : Lt64 a) (hb : Lt64 b) (va : valueE s.what s.width a = true) (vb : valueE s.what s.width b = true) (k : belowE s.what a b = true) : belowE s.what (applyT s v a) (applyT s v b) = true := by
  have hv' : v < s.T.length := by rw [h.tl]; exact hv
  have := apply_up (hs.2 v hv').1 (hs.2 v hv').2 ha hb (h.tr v hv') va vb
  rw [below_eq k] at this
  exact this
theorem belowS_at {s : SysT} {a b : List (List Nat)} (h : belowS s a b = true) (v : Nat) (hv : v < a.length) : belowE s.what (lsAt a v) (lsAt b v) = true := by
  unfold belowS at h
  rw [Bool.and_eq_true, List.all_eq_true] at h
  exact h.2 v (List.mem_range.2 hv)
theorem stepK_up {s : SysT} (h : OkS s) (hs : LtS s) {a b : List (List Nat)} (ha : LtA a) (hb : LtA b) (va : valuesE s a = true) (vb : valuesE s b = true) (hab : belowS s a b = true) (v : Int) : ∀ k, k ≤ s.E.length → belowE s.what (stepK s a k v) (stepK s b k v) = true
  | 0, _ => by rw [stepK_zero, stepK_zero]; exact below_refl (start_lt hs.1 v) (start_value h v)
  | k + 1, hk => by
    have ih := stepK_up h hs ha hb va vb hab v k (by omega)
    have pa := stepK_value h hs ha va v k (by omega)
    have pb := stepK_value h hs hb vb v k (by omega)
    rw [stepK_succ s a k v (by omega), stepK_succ s b k v (by omega)]
    unfold alongE
    split
    · have e := h.ed k (by omega)
      have hu : (edAt s.E k).1.toNat < s.nodes.toNat := by omega
      have l1 := ha (edAt s.E k).1.toNat (by rw [values_len va]; exact hu)
      have v1 := values_at va _ hu
      have l2 := hb (edAt s.E k).1.toNat (by rw [values_len vb]; exact hu)
      have v2 := values_at vb _ hu
      exact join_up pa.2 (applyT_lt h hs hu l1) pb.2 (applyT_lt h hs hu l2) pa.1 (applyT_value h hs hu l1 v1) pb.1 (applyT_value h hs hu l2 v2) ih
        (applyT_up h hs hu l1 l2 v1 v2 (belowS_at hab _ (by rw [values_len va]; exact hu)))
    · exact ih
theorem step_up_s {s : SysT} (h : OkS s) (hs : LtS s) {a b : List (List Nat)} (ha : LtA a) (hb : LtA b) (va : valuesE s a = true) (vb : valuesE s b = true) (hab : belowS s a b = true) : belowS s (stepE s a) (stepE s b) = true := by
  unfold belowS
  rw [Bool.and_eq_true, step_len, step_len, List.all_eq_true]
  refine ⟨decide_eq_true rfl, fun v hv => ?_⟩
  have hv := List.mem_range.1 hv
  rw [step_at hv, step_at hv]
  exact stepK_up h hs ha hb va vb hab (v : Int) _ (Nat.le_refl _)

end Go.Proofs.Ytfeipfemknnhhaa

namespace Go.Proofs.Ytfeipfemknnhhaa
open Go.RowKit

theorem Bk.seven {w : World} {g : Nat} {t : TypeId} {x0 x1 x2 x3 x4 x5 x6 : Value} (h : Bk w g t [x0, x1, x2, x3, x4, x5, x6]) :
    w.cell? ⟨g, 0, none⟩ = some x0 ∧ w.cell? ⟨g, 1, none⟩ = some x1 ∧ w.cell? ⟨g, 2, none⟩ = some x2 ∧ w.cell? ⟨g, 3, none⟩ = some x3 ∧ w.cell? ⟨g, 4, none⟩ = some x4 ∧ w.cell? ⟨g, 5, none⟩ = some x5 ∧ w.cell? ⟨g, 6, none⟩ = some x6 :=
  ⟨h.cell 0, h.cell 1, h.cell 2, h.cell 3, h.cell 4, h.cell 5, h.cell 6⟩

set_option maxHeartbeats 3200000 in
set_option maxRecDepth 100000 in
theorem fnode_any (n v : Int) (w : World) :
    Calls Try.prog 112 #[.int .i64 n, .int .i64 v] w fun e w' => e = .returned (.bool (nodeE n v)) ∧ w' = w := by
  by_cases h0 : 0 ≤ v
  · have H := Lib.hid (show nodeE n v = decide (v < n) by unfold nodeE; rw [decide_eq_true h0]; rfl)
    go_enter Try.func112, Try.ntmps112
    go_wp2
    go_ret
    exact ⟨ret_bool H.out.symm, rfl⟩
  · have H := Lib.hid (show nodeE n v = false by unfold nodeE; rw [decide_eq_false h0]; rfl)
    go_enter Try.func112, Try.ntmps112
    go_wp2
    go_ret
    exact ⟨ret_bool H.out.symm, rfl⟩

set_option maxHeartbeats 3200000 in
set_option maxRecDepth 100000 in
theorem within7_any (n a b : Int) (w : World) :
    Calls Try.prog 85 #[.int .i64 n, .agg #[.int .i64 a, .int .i64 b]] w fun e w' => e = .returned (.bool (withinE n (a, b))) ∧ Below w.heap.size w w' := by
  have B0 := Lib.hid ((Below.refl w.heap.size w).alloc (Nat.le_refl _) (.cells #[.int .i64 a, .int .i64 b] 46))
  have HD := Lib.hid (show withinE n (a, b) = (nodeE n a && nodeE n b) from rfl)
  obtain ⟨q, hq⟩ : ∃ q, q = withinE n (a, b) := ⟨_, rfl⟩
  rw [← hq] at HD ⊢
  clear hq
  go_enter Try.func85, Try.ntmps85
  go_wp2_with fail
  refine (fnode_any n a _).mono ?_
  rintro e w1 ⟨rfl, hww⟩
  subst w1
  cases ha : nodeE n a with
  | false =>
    have HV := Lib.hid (show q = false by rw [HD.out, ha]; rfl)
    clear ha
    go_wp2_with fail
    go_ret
    exact ⟨ret_bool HV.out.symm, B0.out⟩
  | true =>
    have HV := Lib.hid (show q = nodeE n b by rw [HD.out, ha]; rfl)
    clear ha
    go_wp2_with fail
    refine (fnode_any n b _).mono ?_
    rintro e w1 ⟨rfl, hww⟩
    subst w1
    rw [← HV.out]
    go_wp2_with fail
    go_ret
    exact ⟨rfl, B0.out⟩

theorem right_no {n : Int} {E : List (Int × Int)} (h : ¬ (1 ≤ n ∧ n ≤ 256 ∧ E.length ≤ 1024)) : rightE n E = false := by
  unfold rightE
  rw [show (decide (1 ≤ n) && (decide (n ≤ 256) && decide (E.length ≤ 1024))) = false by
    rw [Bool.eq_false_iff]
    intro h2
    rw [Bool.and_eq_true, Bool.and_eq_true, decide_eq_true_eq, decide_eq_true_eq, decide_eq_true_eq] at h2
    exact h h2]
  rfl
theorem right_yes {n : Int} {E : List (Int × Int)} (h1 : 1 ≤ n) (h2 : n ≤ 256) (h3 : E.length ≤ 1024) : rightE n E = E.all (withinE n) := by
  unfold rightE
  rw [decide_eq_true h1, decide_eq_true h2, decide_eq_true h3]
  rfl

set_option maxHeartbeats 3200000 in
set_option maxRecDepth 100000 in
theorem fright_any (n : Int) (v : Value) (E : List (Int × Int)) (w : World) (h : Edges w v E) (hn : E.length ≤ 1000000) :
    Calls Try.prog 52 #[.int .i64 n, v] w fun e w' => e = .returned (.bool (rightE n E)) ∧ Below w.heap.size w w' := by
  obtain ⟨o, c, rfl, hc⟩ := h
  have HC := Lib.hid hc
  have B0 := Lib.hid (Below.refl w.heap.size w)
  clear hc
  obtain ⟨q, hq⟩ : ∃ q, q = rightE n E := ⟨_, rfl⟩
  have HQ := Lib.hid hq
  rw [← hq]
  clear hq
  by_cases h1 : n < 1
  · have HV := Lib.hid (show q = false by rw [HQ.out]; exact right_no (by omega))
    go_enter Try.func52, Try.ntmps52
    go_wp2_with fail
    go_ret
    exact ⟨ret_bool HV.out.symm, B0.out⟩
  by_cases h2 : 256 < n
  · have HV := Lib.hid (show q = false by rw [HQ.out]; exact right_no (by omega))
    go_enter Try.func52, Try.ntmps52
    go_wp2_with fail
    go_ret
    exact ⟨ret_bool HV.out.symm, B0.out⟩
  by_cases h3 : (1024 : Int) < E.length
  · have HV := Lib.hid (show q = false by rw [HQ.out]; exact right_no (by omega))
    go_enter Try.func52, Try.ntmps52
    go_wp2_with fail
    go_ret
    exact ⟨ret_bool HV.out.symm, B0.out⟩
  have g1 : 1 ≤ n := by omega
  have g2 : n ≤ 256 := by omega
  have g3 : (E.length : Int) ≤ 1024 := by omega
  have HQ1 := Lib.hid (show q = E.all (withinE n) by rw [HQ.out]; exact right_yes g1 g2 (by omega))
  clear h1 h2 h3
  go_enter Try.func52, Try.ntmps52
  go_wp2_with fail
  go_loopw [20] (fun i wr => ∃ k : Nat, k ≤ E.length ∧ i = .int .i64 k ∧ Hid (∀ i, i < k → withinE n (edAt E i) = true) ∧ Below w.heap.size w wr)
    (fun i _ => E.length - (intOf i).toNat)
  case atStart => exact ⟨0, Nat.zero_le _, rfl, Lib.hid (fun i h => by omega), B0.out⟩
  case round =>
    obtain ⟨k, hk, rfl, HA, hB⟩ := hrel
    have HB := Lib.hid hB
    clear hB
    by_cases hlt : k < E.length
    · obtain ⟨b, off, rfl, hd⟩ := HC.out (by omega)
      obtain ⟨d0, d1⟩ := hd k hlt
      have H0k := Lib.hid (show withinE n (edAt E k) = false → q = false from fun h => by rw [HQ1.out]; exact all_not_get (0, 0) k hlt h)
      have HSk := Lib.hid (show withinE n (edAt E k) = true → ∀ i, i < k + 1 → withinE n (edAt E i) = true from fun e i hi => by
        rcases (show i < k ∨ i = k by omega) with h | rfl
        · exact HA.out i h
        · exact e)
      generalize edAt E k = ed at *
      obtain ⟨x, y⟩ := ed
      have e0 : wr.cell? ⟨b, off + k * 2, none⟩ = some (.int .i64 x) := keepc d0 HB.out
      have e1 : wr.cell? ⟨b, off + k * 2 + 1, none⟩ = some (.int .i64 y) := keepc d1 HB.out
      have hki : (k : Int) < E.length := by omega
      clear hd d0 d1
      have HB1 := Lib.hid (HB.out.alloc HB.out.size (.cells #[.int .i64 x, .int .i64 y] 46))
      go_wp2_with fail
      refine (within7_any n x y _).mono ?_
      rintro e w2 ⟨rfl, hB⟩
      have HB2 := Lib.hid (HB1.out.trans (hB.mono HB1.out.size))
      clear hB
      cases hs : withinE n (x, y) with
      | true =>
        have HS2 := Lib.hid (HSk.out hs)
        clear hs
        go_wp2_with fail
        go_roundw
        case rel => exact ⟨k + 1, by omega, by go_num, HS2, HB2.out⟩
        case measure => simp [intOf]; omega
      | false =>
        have HV := Lib.hid (H0k.out hs)
        clear hs
        go_wp2_with fail
        go_ret
        exact ⟨ret_bool HV.out.symm, HB2.out⟩
    · obtain rfl : k = E.length := by omega
      have HV := Lib.hid (show q = true by rw [HQ1.out]; exact all_of_get (0, 0) HA.out)
      go_wp2_with fail
      go_ret
      exact ⟨ret_bool HV.out.symm, HB.out⟩

set_option maxHeartbeats 3200000 in
set_option maxRecDepth 100000 in
theorem rright_any (n : Int) (v : Value) (E : List (Int × Int)) (w : World) (h : Edges w v E) (hn : E.length ≤ 1000000) :
    Calls Try.prog 35 #[.int .i64 n, v] w fun e w' => e = .returned (.bool (rightE n E)) ∧ Below w.heap.size w w' := by
  obtain ⟨o, c, rfl, hc⟩ := h
  have HC := Lib.hid hc
  have B0 := Lib.hid (Below.refl w.heap.size w)
  clear hc
  obtain ⟨q, hq⟩ : ∃ q, q = rightE n E := ⟨_, rfl⟩
  have HQ := Lib.hid hq
  rw [← hq]
  clear hq
  by_cases h1 : n < 1
  · have HV := Lib.hid (show q = false by rw [HQ.out]; exact right_no (by omega))
    go_enter Try.func35, Try.ntmps35
    go_wp2_with fail
    go_ret
    exact ⟨ret_bool HV.out.symm, B0.out⟩
  by_cases h2 : 256 < n
  · have HV := Lib.hid (show q = false by rw [HQ.out]; exact right_no (by omega))
    go_enter Try.func35, Try.ntmps35
    go_wp2_with fail
    go_ret
    exact ⟨ret_bool HV.out.symm, B0.out⟩
  by_cases h3 : (1024 : Int) < E.length
  · have HV := Lib.hid (show q = false by rw [HQ.out]; exact right_no (by omega))
    go_enter Try.func35, Try.ntmps35
    go_wp2_with fail
    go_ret
    exact ⟨ret_bool HV.out.symm, B0.out⟩
  have g1 : 1 ≤ n := by omega
  have g2 : n ≤ 256 := by omega
  have g3 : (E.length : Int) ≤ 1024 := by omega
  have HQ1 := Lib.hid (show q = E.all (withinE n) by rw [HQ.out]; exact right_yes g1 g2 (by omega))
  clear h1 h2 h3
  go_enter Try.func35, Try.ntmps35
  go_wp2_with fail
  go_loopw [20] (fun i wr => ∃ k : Nat, k ≤ E.length ∧ i = .int .i64 k ∧ Hid (∀ i, i < k → withinE n (edAt E i) = true) ∧ Below w.heap.size w wr)
    (fun i _ => E.length - (intOf i).toNat)
  case atStart => exact ⟨0, Nat.zero_le _, rfl, Lib.hid (fun i h => by omega), B0.out⟩
  case round =>
    obtain ⟨k, hk, rfl, HA, hB⟩ := hrel
    have HB := Lib.hid hB
    clear hB
    by_cases hlt : k < E.length
    · obtain ⟨b, off, rfl, hd⟩ := HC.out (by omega)
      obtain ⟨d0, d1⟩ := hd k hlt
      have H0k := Lib.hid (show withinE n (edAt E k) = false → q = false from fun h => by rw [HQ1.out]; exact all_not_get (0, 0) k hlt h)
      have HSk := Lib.hid (show withinE n (edAt E k) = true → ∀ i, i < k + 1 → withinE n (edAt E i) = true from fun e i hi => by
        rcases (show i < k ∨ i = k by omega) with h | rfl
        · exact HA.out i h
        · exact e)
      generalize edAt E k = ed at *
      obtain ⟨x, y⟩ := ed
      have e0 : wr.cell? ⟨b, off + k * 2, none⟩ = some (.int .i64 x) := keepc d0 HB.out
      have e1 : wr.cell? ⟨b, off + k * 2 + 1, none⟩ = some (.int .i64 y) := keepc d1 HB.out
      have hki : (k : Int) < E.length := by omega
      clear hd d0 d1
      have HB1 := Lib.hid (HB.out.alloc HB.out.size (.cells #[.int .i64 x, .int .i64 y] 46))
      by_cases b0 : x < 0
      · have HV := Lib.hid (H0k.out (by unfold withinE nodeE; simp only [Bool.and_eq_false_iff, decide_eq_false_iff_not]; omega))
        clear H0k HSk
        go_wp2_with fail
        go_ret
        exact ⟨ret_bool HV.out.symm, HB1.out⟩
      have a0 : 0 ≤ x := by omega
      clear b0
      by_cases b1 : n ≤ x
      · have HV := Lib.hid (H0k.out (by unfold withinE nodeE; simp only [Bool.and_eq_false_iff, decide_eq_false_iff_not]; omega))
        clear H0k HSk
        go_wp2_with fail
        go_ret
        exact ⟨ret_bool HV.out.symm, HB1.out⟩
      have a1 : x < n := by omega
      clear b1
      by_cases b2 : y < 0
      · have HV := Lib.hid (H0k.out (by unfold withinE nodeE; simp only [Bool.and_eq_false_iff, decide_eq_false_iff_not]; omega))
        clear H0k HSk
        go_wp2_with fail
        go_ret
        exact ⟨ret_bool HV.out.symm, HB1.out⟩
      have a2 : 0 ≤ y := by omega
      clear b2
      by_cases b3 : n ≤ y
      · have HV := Lib.hid (H0k.out (by unfold withinE nodeE; simp only [Bool.and_eq_false_iff, decide_eq_false_iff_not]; omega))
        clear H0k HSk
        go_wp2_with fail
        go_ret
        exact ⟨ret_bool HV.out.symm, HB1.out⟩
      have a3 : y < n := by omega
      clear b3
      have HS2 := Lib.hid (HSk.out (by unfold withinE nodeE; simp only [Bool.and_eq_true, decide_eq_true_eq]; omega))
      clear H0k HSk
      go_wp2_with fail
      go_roundw
      case rel => exact ⟨k + 1, by omega, by go_num, HS2, HB1.out⟩
      case measure => simp [intOf]; omega
    · obtain rfl : k = E.length := by omega
      have HV := Lib.hid (show q = true by rw [HQ1.out]; exact all_of_get (0, 0) HA.out)
      go_wp2_with fail
      go_ret
      exact ⟨ret_bool HV.out.symm, HB.out⟩

set_option maxHeartbeats 3200000 in
set_option maxRecDepth 100000 in
theorem snode_any (s : SysT) (ve vn vi vt : Value) (v : Int) (w : World) (hL : SysL w ve vn vi vt s) :
    Calls Try.prog 53 #[.agg #[.int .i64 s.what, .int .i64 s.width, .int .i64 s.nodes, ve, vn, vi, vt], .int .i64 v] w fun e w' => e = .returned (.bool (nodeE s.nodes v)) ∧ Below w.heap.size w w' := by
  have HS := Lib.hid hL
  obtain ⟨pe, ce, rfl⟩ := hL.1.len
  obtain ⟨pn, cn, rfl⟩ := hL.2.1.len
  obtain ⟨pi, ci, rfl⟩ := ws_len hL.2.2.1
  obtain ⟨pt, ct, rfl⟩ := hL.2.2.2.len
  have KS := Lib.hid (Bk.new w 27 [.int .i64 s.what, .int .i64 s.width, .int .i64 s.nodes, .slice pe s.E.length ce, .slice pn s.N.length cn, .slice pi s.I.length ci, .slice pt s.T.length ct])
  have B0 := Lib.hid ((Below.refl w.heap.size w).alloc (Nat.le_refl _) (.cells #[.int .i64 s.what, .int .i64 s.width, .int .i64 s.nodes, .slice pe s.E.length ce, .slice pn s.N.length cn, .slice pi s.I.length ci, .slice pt s.T.length ct] 27))
  have HS0 := Lib.hid (HS.out.below B0.out)
  clear hL

  by_cases h0 : 0 ≤ v
  · have H := Lib.hid (show nodeE s.nodes v = decide (v < s.nodes) by unfold nodeE; rw [decide_eq_true h0]; rfl)
    go_enter Try.func53, Try.ntmps53
    go_wp2
    go_ret
    exact ⟨ret_bool H.out.symm, B0.out⟩
  · have H := Lib.hid (show nodeE s.nodes v = false by unfold nodeE; rw [decide_eq_false h0]; rfl)
    go_enter Try.func53, Try.ntmps53
    go_wp2
    go_ret
    exact ⟨ret_bool H.out.symm, B0.out⟩

set_option maxHeartbeats 3200000 in
set_option maxRecDepth 100000 in
theorem svalue_any (s : SysT) (ve vn vi vt : Value) (va : Value) (a : List Nat) (w : World) (hL : SysL w ve vn vi vt s) (ha : Ws w va a) (hn : a.length ≤ 100000) :
    Calls Try.prog 54 #[.agg #[.int .i64 s.what, .int .i64 s.width, .int .i64 s.nodes, ve, vn, vi, vt], va] w fun e w' => e = .returned (.bool (valueE s.what s.width a)) ∧ Below w.heap.size w w' := by
  have HS := Lib.hid hL
  obtain ⟨pe, ce, rfl⟩ := hL.1.len
  obtain ⟨pn, cn, rfl⟩ := hL.2.1.len
  obtain ⟨pi, ci, rfl⟩ := ws_len hL.2.2.1
  obtain ⟨pt, ct, rfl⟩ := hL.2.2.2.len
  have KS := Lib.hid (Bk.new w 27 [.int .i64 s.what, .int .i64 s.width, .int .i64 s.nodes, .slice pe s.E.length ce, .slice pn s.N.length cn, .slice pi s.I.length ci, .slice pt s.T.length ct])
  have B0 := Lib.hid ((Below.refl w.heap.size w).alloc (Nat.le_refl _) (.cells #[.int .i64 s.what, .int .i64 s.width, .int .i64 s.nodes, .slice pe s.E.length ce, .slice pn s.N.length cn, .slice pi s.I.length ci, .slice pt s.T.length ct] 27))
  have HS0 := Lib.hid (HS.out.below B0.out)
  clear hL

  have HA := Lib.hid (ha.below B0.out)
  obtain ⟨pa, ca, rfl⟩ := ws_len ha
  clear ha
  go_enter Try.func54, Try.ntmps54
  go_wp2_with fail
  refine (lval_any s.what s.width _ a _ HA.out hn).mono ?_
  rintro e w1 ⟨rfl, hB⟩
  have B1 := Lib.hid (B0.out.trans (hB.mono B0.out.size))
  clear hB
  go_wp2_with fail
  go_ret
  exact ⟨rfl, B1.out⟩

set_option maxHeartbeats 3200000 in
set_option maxRecDepth 100000 in
theorem iindex_any (v : Value) (a : List Int) (x : Int) (w : World) (h : IntsAt w v a) (hn : a.length ≤ 1000000) :
    Calls Try.prog 107 #[v, .int .i64 x] w fun e w' => (∃ r : Int, e = .returned (.int .i64 r) ∧ decide (0 ≤ r) = inE a x) ∧ w' = w := by
  obtain ⟨p, c, rfl, hc⟩ := h
  have HC := Lib.hid hc
  clear hc
  go_enter Try.func107, Try.ntmps107
  go_wp2_with fail
  go_loopw [8] (fun i wr => ∃ k : Nat, k ≤ a.length ∧ i = .int .i64 k ∧ Hid (∀ i, i < k → (a[i]?.getD 0) ≠ x) ∧ wr = w)
    (fun i _ => a.length - (intOf i).toNat)
  case atStart => exact ⟨0, Nat.zero_le _, rfl, Lib.hid (fun i h => by omega), rfl⟩
  case round =>
    obtain ⟨k, hk, rfl, HA, rfl⟩ := hrel
    by_cases hlt : k < a.length
    · obtain ⟨b, off, rfl, q⟩ := HC.out (by omega)
      have hck := q k hlt
      have hii : (k : Int) < a.length := by omega
      have H0k := Lib.hid (show (a[k]?.getD 0) = x → inE a x = true from fun e => by
        unfold inE
        rw [List.any_eq_true]
        refine ⟨a[k], List.getElem_mem hlt, ?_⟩
        rw [List.getElem?_eq_getElem hlt] at e
        simpa using e)
      have HS := Lib.hid (show (a[k]?.getD 0) ≠ x → ∀ i, i < k + 1 → (a[i]?.getD 0) ≠ x from fun e i hi => by
        rcases (show i < k ∨ i = k by omega) with h | rfl
        · exact HA.out i h
        · exact e)
      clear q
      generalize a[k]?.getD 0 = z at *
      by_cases hz : z = x
      · subst hz
        have HV := Lib.hid (H0k.out rfl)
        go_wp2_with fail
        go_ret
        exact ⟨⟨_, rfl, by rw [HV.out]; simp⟩, rfl⟩
      · have HS2 := Lib.hid (HS.out hz)
        have hzb : (x == z) = false := by simp; omega
        clear hz
        go_wp2_with fail
        go_roundw
        case rel => exact ⟨k + 1, by omega, by go_num, HS2, trivial⟩
        case measure => simp [intOf]; omega
    · obtain rfl : k = a.length := by omega
      have HV := Lib.hid (show inE a x = false by
        unfold inE
        rw [Bool.eq_false_iff]
        intro h2
        obtain ⟨z, hz, he⟩ := List.any_eq_true.1 h2
        obtain ⟨i, hi, rfl⟩ := List.getElem_of_mem hz
        have := HA.out i hi
        rw [List.getElem?_eq_getElem hi] at this
        exact this (by simpa using he))
      go_wp2_with fail
      go_ret
      exact ⟨⟨_, rfl, by rw [HV.out]; rfl⟩, rfl⟩

set_option maxHeartbeats 3200000 in
set_option maxRecDepth 100000 in
theorem icontains_any (v : Value) (a : List Int) (x : Int) (w : World) (h : IntsAt w v a) (hn : a.length ≤ 1000000) :
    Calls Try.prog 75 #[v, .int .i64 x] w fun e w' => e = .returned (.bool (inE a x)) ∧ w' = w := by
  have H := Lib.hid h
  obtain ⟨p, c, rfl⟩ := h.len
  clear h
  go_enter Try.func75, Try.ntmps75
  go_wp2_with fail
  refine (iindex_any _ a x _ H.out hn).mono ?_
  rintro e w1 ⟨⟨r, rfl, hr⟩, hww⟩
  subst w1
  have HR := Lib.hid hr
  clear hr
  go_wp2_with fail
  go_ret
  exact ⟨ret_bool HR.out, rfl⟩


end Go.Proofs.Ytfeipfemknnhhaa

namespace Go.Proofs.Ytfeipfemknnhhaa
open Go.RowKit

/-- A system's lists are not too long to be walked. -/
structure SysF (s : SysT) : Prop where
  el : s.E.length ≤ 100000
  nl : s.N.length ≤ 100000
  il : s.I.length ≤ 1000
  tl : s.T.length ≤ 100000
  tr : ∀ j, j < s.T.length → (trAt s.T j).g.length ≤ 1000 ∧ (trAt s.T j).k.length ≤ 1000 ∧ (trAt s.T j).l.length ≤ 100000

theorem cs_kind {s : SysT} (h : isL s.what s.width = false) : checkS s = 10 := by unfold checkS; rw [h, if_neg (by decide)]
theorem cs_arg {s : SysT} (h : isL s.what s.width = true) (k : ¬ (rightE s.nodes s.E = true ∧ (s.T.length : Int) = s.nodes ∧ s.N.all (nodeE s.nodes) = true)) : checkS s = 1 := by unfold checkS; rw [h, if_pos rfl, if_neg k]
theorem cs_dom {s : SysT} (h : isL s.what s.width = true) (k : rightE s.nodes s.E = true ∧ (s.T.length : Int) = s.nodes ∧ s.N.all (nodeE s.nodes) = true) (l : ¬ (valueE s.what s.width s.I = true ∧ s.T.all (trOk s.what s.width) = true)) : checkS s = 2 := by
  unfold checkS; rw [h, if_pos rfl, if_pos k, if_neg l]
theorem cs_ok {s : SysT} (h : isL s.what s.width = true) (k : rightE s.nodes s.E = true ∧ (s.T.length : Int) = s.nodes ∧ s.N.all (nodeE s.nodes) = true) (l : valueE s.what s.width s.I = true ∧ s.T.all (trOk s.what s.width) = true) : checkS s = 0 := by
  unfold checkS; rw [h, if_pos rfl, if_pos k, if_pos l]

set_option maxHeartbeats 3200000 in
set_option maxRecDepth 100000 in
theorem scheck_any (s : SysT) (ve vn vi vt : Value) (w : World) (hL : SysL w ve vn vi vt s) (hb : SysF s) :
    Calls Try.prog 25 #[.agg #[.int .i64 s.what, .int .i64 s.width, .int .i64 s.nodes, ve, vn, vi, vt]] w fun e w' => e = .returned (.int .i64 (checkS s)) ∧ Below w.heap.size w w' := by
  have HS := Lib.hid hL
  obtain ⟨pe, ce, rfl⟩ := hL.1.len
  obtain ⟨pn, cn, rfl⟩ := hL.2.1.len
  obtain ⟨pi, ci, rfl⟩ := ws_len hL.2.2.1
  obtain ⟨pt, ct, rfl⟩ := hL.2.2.2.len
  have KS := Lib.hid (Bk.new w 27 [.int .i64 s.what, .int .i64 s.width, .int .i64 s.nodes, .slice pe s.E.length ce, .slice pn s.N.length cn, .slice pi s.I.length ci, .slice pt s.T.length ct])
  have B0 := Lib.hid ((Below.refl w.heap.size w).alloc (Nat.le_refl _) (.cells #[.int .i64 s.what, .int .i64 s.width, .int .i64 s.nodes, .slice pe s.E.length ce, .slice pn s.N.length cn, .slice pi s.I.length ci, .slice pt s.T.length ct] 27))
  have HS0 := Lib.hid (HS.out.below B0.out)
  clear hL
  have HF := Lib.hid hb
  have hnl : s.N.length ≤ 100000 := hb.nl
  have htl : s.T.length ≤ 100000 := hb.tl
  clear hb
  obtain ⟨q, hq⟩ : ∃ q, q = checkS s := ⟨_, rfl⟩
  have HQ := Lib.hid hq
  rw [← hq]
  clear hq
  go_enter Try.func25, Try.ntmps25
  go_wp2_with fail
  refine wp_scope_via 2 ?_
  go_wp2_with fail
  go_region_held3 (fun w' => w'.cell? ⟨w.heap.size, 0, none⟩ = some (.int .i64 s.what) ∧ w'.cell? ⟨w.heap.size, 1, none⟩ = some (.int .i64 s.width) ∧ Bk w' w.heap.size 27 [.int .i64 s.what, .int .i64 s.width, .int .i64 s.nodes, .slice pe s.E.length ce, .slice pn s.N.length cn, .slice pi s.I.length ci, .slice pt s.T.length ct] ∧ Below w.heap.size w w')
    (first
      | exact ⟨KS.out.cell 0, KS.out.cell 1, KS.out.drew, B0.out.drew⟩
      | (go_split_ands; exact ⟨keepc (by assumption) hB, keepc (by assumption) hB, Bk.below (by assumption) hB, bel_then (by assumption) hB⟩))
    (first
      | (go_at_call 51; refine (bottom_any s.what s.width _).mono ?_; rintro e w' ⟨vb, rfl, hWb, hB⟩)
      | (go_at_call 50; refine (lval_any s.what s.width _ (bottomE s.what s.width) _ hWb (by rw [bottom_len]; have := wordsN_le s.what s.width; omega)).mono ?_; rintro e w' ⟨rfl, hB⟩; rw [bottom_is]))
  go_split_ands
  have K1 := Lib.hid (show Bk _ w.heap.size 27 [.int .i64 s.what, .int .i64 s.width, .int .i64 s.nodes, .slice pe s.E.length ce, .slice pn s.N.length cn, .slice pi s.I.length ci, .slice pt s.T.length ct] from by assumption)
  have B1 := Lib.hid (show Below w.heap.size w _ from by assumption)
  cases hl : isL s.what s.width with
  | false =>
    have HV := Lib.hid (show q = 10 by rw [HQ.out]; exact cs_kind hl)
    clear hl
    go_wp2_with fail
    go_step3
    refine ⟨_, rfl, ?_⟩
    go_wp2_with fail
    go_ret
    exact ⟨ret_int HV.out.symm, B1.out⟩
  | true =>
    have HL := Lib.hid hl
    clear hl
    obtain ⟨c0, c1, c2, c3, c4, c5, c6⟩ := K1.out.seven
    go_wp2_with fail
    refine (fright_any s.nodes _ s.E _ (HS.out.1.below B1.out) (by have := HF.out.el; omega)).mono ?_
    rintro e w2 ⟨rfl, hB⟩
    have B2 := Lib.hid (B1.out.trans (hB.mono B1.out.size))
    have K2 := Lib.hid (K1.out.below hB)
    clear c0 c1 c2 c3 c4 c5 c6
    obtain ⟨c0, c1, c2, c3, c4, c5, c6⟩ := K2.out.seven
    clear hB
    cases hr : rightE s.nodes s.E with
    | false =>
      have HV := Lib.hid (show q = 1 by rw [HQ.out]; exact cs_arg HL.out (by rw [hr]; rintro ⟨h, _⟩; cases h))
      clear hr
      go_wp2_with fail
      go_step3
      refine ⟨_, rfl, ?_⟩
      go_wp2_with fail
      go_ret
      exact ⟨ret_int HV.out.symm, B2.out⟩
    | true =>
      have HR := Lib.hid hr
      clear hr
      by_cases ht : (s.T.length : Int) = s.nodes
      case neg =>
        have hnb : ((s.T.length : Int) != s.nodes) = true := by simpa using ht
        have HV := Lib.hid (show q = 1 by rw [HQ.out]; exact cs_arg HL.out (fun h => ht h.2.1))
        clear ht
        go_wp2_with fail
        go_step3
        refine ⟨_, rfl, ?_⟩
        go_wp2_with fail
        go_ret
        exact ⟨ret_int HV.out.symm, B2.out⟩
      have hnb : ((s.T.length : Int) != s.nodes) = false := by simpa using ht
      have HT := Lib.hid ht
      clear ht
      obtain ⟨_, _, h5, hNc⟩ := HS.out.2.1
      simp only [Value.slice.injEq, true_and] at h5
      obtain ⟨rfl, rfl⟩ := h5
      have HN := Lib.hid hNc
      clear hNc
      go_wp2_with fail
      clear hnb
      go_loopw [35] (fun i wr => ∃ k : Nat, k ≤ s.N.length ∧ i = .int .i64 k ∧ Hid (∀ i, i < k → nodeE s.nodes (s.N[i]?.getD 0) = true) ∧ Below w.heap.size w wr ∧ Bk wr w.heap.size 27 [.int .i64 s.what, .int .i64 s.width, .int .i64 s.nodes, .slice pe s.E.length ce, .slice pn s.N.length cn, .slice pi s.I.length ci, .slice pt s.T.length ct])
        (fun i _ => s.N.length - (intOf i).toNat)
      case atStart => exact ⟨0, Nat.zero_le _, rfl, Lib.hid (fun i h => by omega), B2.out, K2.out⟩
      case round =>
        clear c0 c1 c2 c3 c4 c5 c6
        obtain ⟨k, hk, rfl, HA, hB, hK⟩ := hrel
        have B3 := Lib.hid hB
        have K3 := Lib.hid hK
        obtain ⟨c0, c1, c2, c3, c4, c5, c6⟩ := hK.seven
        clear hB hK
        by_cases hlt : k < s.N.length
        · obtain ⟨b, off, rfl, hd⟩ := HN.out (by omega)
          have d0 := keepc (hd k hlt) B3.out
          have hki : (k : Int) < s.N.length := by omega
          have H0k := Lib.hid (show nodeE s.nodes (s.N[k]?.getD 0) = false → q = 1 from fun h => by
            rw [HQ.out]; refine cs_arg HL.out (fun h2 => ?_)
            have := all_get 0 h2.2.2 k hlt
            rw [h] at this; cases this)
          have HSk := Lib.hid (show nodeE s.nodes (s.N[k]?.getD 0) = true → ∀ i, i < k + 1 → nodeE s.nodes (s.N[i]?.getD 0) = true from fun e i hi => by
            rcases (show i < k ∨ i = k by omega) with h | rfl
            · exact HA.out i h
            · exact e)
          clear hd
          generalize s.N[k]?.getD 0 = z at *
          go_wp2_with fail
          refine (snode_any s _ _ _ _ z _ (HS.out.below B3.out)).mono ?_
          rintro e w4 ⟨rfl, hB⟩
          have B4 := Lib.hid (B3.out.trans (hB.mono B3.out.size))
          have K4 := Lib.hid (K3.out.below hB)
          clear c0 c1 c2 c3 c4 c5 c6
          obtain ⟨c0, c1, c2, c3, c4, c5, c6⟩ := K4.out.seven
          clear hB
          cases hs : nodeE s.nodes z with
          | true =>
            have HS2 := Lib.hid (HSk.out hs)
            clear hs
            go_wp2_with fail
            go_roundw
            case rel => exact ⟨k + 1, by omega, by go_num, HS2, B4.out, K4.out⟩
            case measure => simp [intOf]; omega
          | false =>
            have HV := Lib.hid (H0k.out hs)
            clear hs
            go_wp2_with fail
            go_step3
            refine ⟨_, rfl, ?_⟩
            go_wp2_with fail
            go_ret
            exact ⟨ret_int HV.out.symm, B4.out⟩
        · obtain rfl : k = s.N.length := by omega
          have HNA := Lib.hid (show rightE s.nodes s.E = true ∧ (s.T.length : Int) = s.nodes ∧ s.N.all (nodeE s.nodes) = true from ⟨HR.out, HT.out, all_of_get 0 HA.out⟩)
          go_wp2_with fail
          refine (svalue_any s _ _ _ _ _ s.I _ (HS.out.below B3.out) (HS.out.2.2.1.below B3.out) (by have := HF.out.il; omega)).mono ?_
          rintro e w4 ⟨rfl, hB⟩
          have B4 := Lib.hid (B3.out.trans (hB.mono B3.out.size))
          have K4 := Lib.hid (K3.out.below hB)
          clear c0 c1 c2 c3 c4 c5 c6
          obtain ⟨c0, c1, c2, c3, c4, c5, c6⟩ := K4.out.seven
          clear hB
          cases hv : valueE s.what s.width s.I with
          | false =>
            have HV := Lib.hid (show q = 2 by rw [HQ.out]; exact cs_dom HL.out HNA.out (by rw [hv]; rintro ⟨h, _⟩; cases h))
            clear hv
            go_wp2_with fail
            go_step3
            refine ⟨_, rfl, ?_⟩
            go_wp2_with fail
            go_ret
            exact ⟨ret_int HV.out.symm, B4.out⟩
          | true =>
            have HVI := Lib.hid hv
            clear hv
            obtain ⟨_, _, h5, hTc⟩ := HS.out.2.2.2
            simp only [Value.slice.injEq, true_and] at h5
            obtain ⟨rfl, rfl⟩ := h5
            have HTC := Lib.hid hTc
            clear hTc
            go_wp2_with fail
            go_loopw [52] (fun i wr => ∃ k : Nat, k ≤ s.T.length ∧ i = .int .i64 k ∧ Hid (∀ i, i < k → trOk s.what s.width (trAt s.T i) = true) ∧ Below w.heap.size w wr ∧ Bk wr w.heap.size 27 [.int .i64 s.what, .int .i64 s.width, .int .i64 s.nodes, .slice pe s.E.length ce, .slice pn s.N.length cn, .slice pi s.I.length ci, .slice pt s.T.length ct])
              (fun i _ => s.T.length - (intOf i).toNat)
            case atStart => exact ⟨0, Nat.zero_le _, rfl, Lib.hid (fun i h => by omega), B4.out, K4.out⟩
            case round =>
              clear c0 c1 c2 c3 c4 c5 c6
              obtain ⟨k, hk, rfl, HA2, hB, hK⟩ := hrel
              have B5 := Lib.hid hB
              have K5 := Lib.hid hK
              obtain ⟨c0, c1, c2, c3, c4, c5, c6⟩ := hK.seven
              clear hB hK
              by_cases hlt : k < s.T.length
              · obtain ⟨b, off, rfl, hd⟩ := HTC.out (by omega)
                obtain ⟨vg, vk, vl, d0, d1, d2, hV⟩ := hd k hlt
                replace d0 := keepc d0 B5.out
                replace d1 := keepc d1 B5.out
                replace d2 := keepc d2 B5.out
                have HTV := Lib.hid (hV.below B5.out)
                have HBd := Lib.hid (HF.out.tr k hlt)
                obtain ⟨pg, cg, rfl⟩ := ws_len hV.1
                obtain ⟨pk, ck, rfl⟩ := ws_len hV.2.1
                obtain ⟨pl, cl, rfl⟩ := hV.2.2.len
                have hki : (k : Int) < s.T.length := by omega
                have H0k := Lib.hid (show trOk s.what s.width (trAt s.T k) = false → q = 2 from fun h => by
                  rw [HQ.out]; refine cs_dom HL.out HNA.out (fun h2 => ?_)
                  have := all_get ⟨[], [], []⟩ h2.2 k hlt
                  rw [show s.T[k]?.getD ⟨[], [], []⟩ = trAt s.T k from rfl, h] at this; cases this)
                have HSk := Lib.hid (show trOk s.what s.width (trAt s.T k) = true → ∀ i, i < k + 1 → trOk s.what s.width (trAt s.T i) = true from fun e i hi => by
                  rcases (show i < k ∨ i = k by omega) with h | rfl
                  · exact HA2.out i h
                  · exact e)
                clear hd hV
                generalize trAt s.T k = tr at *
                obtain ⟨tg, tk, tl⟩ := tr
                dsimp only at *
                have B6 := Lib.hid (B5.out.alloc B5.out.size (.cells #[.slice pg tg.length cg, .slice pk tk.length ck, .slice pl tl.length cl] 44))
                have K6 := Lib.hid (K5.out.alloc (.cells #[.slice pg tg.length cg, .slice pk tk.length ck, .slice pl tl.length cl] 44))
                have HTV6 := Lib.hid (HTV.out.below ((Below.refl _ _).alloc (Nat.le_refl _) (.cells #[.slice pg tg.length cg, .slice pk tk.length ck, .slice pl tl.length cl] 44)))
                clear c0 c1 c2 c3 c4 c5 c6
                obtain ⟨c0, c1, c2, c3, c4, c5, c6⟩ := K6.out.seven
                go_wp2_with fail
                refine (tcheck_any s.what s.width _ _ _ tg tk tl _ HTV6.out.1 HTV6.out.2.1 HTV6.out.2.2 HBd.out.1 HBd.out.2.1 (by have := HBd.out.2.2; omega)).mono ?_
                rintro e w7 ⟨rfl, hB⟩
                have B7 := Lib.hid (B6.out.trans (hB.mono B6.out.size))
                have K7 := Lib.hid (K6.out.below hB)
                clear hB d0 d1 d2 c0 c1 c2 c3 c4 c5 c6
                obtain ⟨ce, hce⟩ : ∃ z, z = checkT s.what s.width tg tk tl := ⟨_, rfl⟩
                have NCE := Lib.hid hce
                rw [← hce]
                clear hce
                by_cases h0 : ce = 0
                · subst h0
                  have HS2 := Lib.hid (HSk.out (by unfold trOk trC; rw [← NCE.out]; rfl))
                  go_wp2_with fail
                  go_roundw
                  case rel => exact ⟨k + 1, by omega, by go_num, HS2, B7.out, K7.out⟩
                  case measure => simp [intOf]; omega
                · have hnb : (ce != 0) = true := by simpa using h0
                  have HV := Lib.hid (H0k.out (by unfold trOk trC; rw [← NCE.out]; exact decide_eq_false h0))
                  clear h0
                  go_wp2_with fail
                  go_step3
                  refine ⟨_, rfl, ?_⟩
                  go_wp2_with fail
                  go_ret
                  exact ⟨ret_int HV.out.symm, B7.out⟩
              · obtain rfl : k = s.T.length := by omega
                have HV := Lib.hid (show q = 0 by rw [HQ.out]; exact cs_ok HL.out HNA.out ⟨HVI.out, all_of_get ⟨[], [], []⟩ HA2.out⟩)
                go_wp2_with fail
                rw [via_ret]
                go_ret
                exact ⟨ret_int HV.out.symm, B5.out⟩

set_option maxHeartbeats 3200000 in
set_option maxRecDepth 100000 in
theorem rscheck_any (s : SysT) (ve vn vi vt : Value) (w : World) (hL : SysL w ve vn vi vt s) (hb : SysF s) :
    Calls Try.prog 13 #[.agg #[.int .i64 s.what, .int .i64 s.width, .int .i64 s.nodes, ve, vn, vi, vt]] w fun e w' => e = .returned (.int .i64 (checkS s)) ∧ Below w.heap.size w w' := by
  have HS := Lib.hid hL
  obtain ⟨pe, ce, rfl⟩ := hL.1.len
  obtain ⟨pn, cn, rfl⟩ := hL.2.1.len
  obtain ⟨pi, ci, rfl⟩ := ws_len hL.2.2.1
  obtain ⟨pt, ct, rfl⟩ := hL.2.2.2.len
  have KS := Lib.hid (Bk.new w 27 [.int .i64 s.what, .int .i64 s.width, .int .i64 s.nodes, .slice pe s.E.length ce, .slice pn s.N.length cn, .slice pi s.I.length ci, .slice pt s.T.length ct])
  have B0 := Lib.hid ((Below.refl w.heap.size w).alloc (Nat.le_refl _) (.cells #[.int .i64 s.what, .int .i64 s.width, .int .i64 s.nodes, .slice pe s.E.length ce, .slice pn s.N.length cn, .slice pi s.I.length ci, .slice pt s.T.length ct] 27))
  have HS0 := Lib.hid (HS.out.below B0.out)
  clear hL
  have HF := Lib.hid hb
  have hnl : s.N.length ≤ 100000 := hb.nl
  have htl : s.T.length ≤ 100000 := hb.tl
  clear hb
  obtain ⟨q, hq⟩ : ∃ q, q = checkS s := ⟨_, rfl⟩
  have HQ := Lib.hid hq
  rw [← hq]
  clear hq
  go_enter Try.func13, Try.ntmps13
  go_wp2_with fail
  refine (rlis_any s.what s.width _).mono ?_
  rintro e w1 ⟨rfl, hww⟩
  subst w1
  have K1 := KS
  have B1 := B0
  cases hl : isL s.what s.width with
  | false =>
    have HV := Lib.hid (show q = 10 by rw [HQ.out]; exact cs_kind hl)
    clear hl
    go_wp2_with fail
    go_ret
    exact ⟨ret_int HV.out.symm, B1.out⟩
  | true =>
    have HL := Lib.hid hl
    clear hl
    obtain ⟨c0, c1, c2, c3, c4, c5, c6⟩ := K1.out.seven
    go_wp2_with fail
    refine (rright_any s.nodes _ s.E _ (HS.out.1.below B1.out) (by have := HF.out.el; omega)).mono ?_
    rintro e w2 ⟨rfl, hB⟩
    have B2 := Lib.hid (B1.out.trans (hB.mono B1.out.size))
    have K2 := Lib.hid (K1.out.below hB)
    clear c0 c1 c2 c3 c4 c5 c6
    obtain ⟨c0, c1, c2, c3, c4, c5, c6⟩ := K2.out.seven
    clear hB
    cases hr : rightE s.nodes s.E with
    | false =>
      have HV := Lib.hid (show q = 1 by rw [HQ.out]; exact cs_arg HL.out (by rw [hr]; rintro ⟨h, _⟩; cases h))
      clear hr
      go_wp2_with fail
      go_ret
      exact ⟨ret_int HV.out.symm, B2.out⟩
    | true =>
      have HR := Lib.hid hr
      clear hr
      by_cases ht : (s.T.length : Int) = s.nodes
      case neg =>
        have hnb : ((s.T.length : Int) != s.nodes) = true := by simpa using ht
        have HV := Lib.hid (show q = 1 by rw [HQ.out]; exact cs_arg HL.out (fun h => ht h.2.1))
        clear ht
        go_wp2_with fail
        go_ret
        exact ⟨ret_int HV.out.symm, B2.out⟩
      have hnb : ((s.T.length : Int) != s.nodes) = false := by simpa using ht
      have HT := Lib.hid ht
      clear ht
      obtain ⟨_, _, h5, hNc⟩ := HS.out.2.1
      simp only [Value.slice.injEq, true_and] at h5
      obtain ⟨rfl, rfl⟩ := h5
      have HN := Lib.hid hNc
      clear hNc
      go_wp2_with fail
      clear hnb
      go_loopw [30] (fun i wr => ∃ k : Nat, k ≤ s.N.length ∧ i = .int .i64 k ∧ Hid (∀ i, i < k → nodeE s.nodes (s.N[i]?.getD 0) = true) ∧ Below w.heap.size w wr ∧ Bk wr w.heap.size 27 [.int .i64 s.what, .int .i64 s.width, .int .i64 s.nodes, .slice pe s.E.length ce, .slice pn s.N.length cn, .slice pi s.I.length ci, .slice pt s.T.length ct])
        (fun i _ => s.N.length - (intOf i).toNat)
      case atStart => exact ⟨0, Nat.zero_le _, rfl, Lib.hid (fun i h => by omega), B2.out, K2.out⟩
      case round =>
        clear c0 c1 c2 c3 c4 c5 c6
        obtain ⟨k, hk, rfl, HA, hB, hK⟩ := hrel
        have B3 := Lib.hid hB
        have K3 := Lib.hid hK
        obtain ⟨c0, c1, c2, c3, c4, c5, c6⟩ := hK.seven
        clear hB hK
        by_cases hlt : k < s.N.length
        · obtain ⟨b, off, rfl, hd⟩ := HN.out (by omega)
          have d0 := keepc (hd k hlt) B3.out
          have hki : (k : Int) < s.N.length := by omega
          have H0k := Lib.hid (show nodeE s.nodes (s.N[k]?.getD 0) = false → q = 1 from fun h => by
            rw [HQ.out]; refine cs_arg HL.out (fun h2 => ?_)
            have := all_get 0 h2.2.2 k hlt
            rw [h] at this; cases this)
          have HSk := Lib.hid (show nodeE s.nodes (s.N[k]?.getD 0) = true → ∀ i, i < k + 1 → nodeE s.nodes (s.N[i]?.getD 0) = true from fun e i hi => by
            rcases (show i < k ∨ i = k by omega) with h | rfl
            · exact HA.out i h
            · exact e)
          clear hd
          generalize s.N[k]?.getD 0 = z at *
          by_cases b0 : z < 0
          · have HV := Lib.hid (H0k.out (by unfold nodeE; simp only [Bool.and_eq_false_iff, decide_eq_false_iff_not]; omega))
            go_wp2_with fail
            go_ret
            exact ⟨ret_int HV.out.symm, B3.out⟩
          have a0 : 0 ≤ z := by omega
          clear b0
          by_cases b1 : s.nodes ≤ z
          · have HV := Lib.hid (H0k.out (by unfold nodeE; simp only [Bool.and_eq_false_iff, decide_eq_false_iff_not]; omega))
            go_wp2_with fail
            go_ret
            exact ⟨ret_int HV.out.symm, B3.out⟩
          have a1 : z < s.nodes := by omega
          clear b1
          have HS2 := Lib.hid (HSk.out (by unfold nodeE; simp only [Bool.and_eq_true, decide_eq_true_eq]; omega))
          go_wp2_with fail
          go_roundw
          case rel => exact ⟨k + 1, by omega, by go_num, HS2, B3.out, K3.out⟩
          case measure => simp [intOf]; omega
        · obtain rfl : k = s.N.length := by omega
          have HNA := Lib.hid (show rightE s.nodes s.E = true ∧ (s.T.length : Int) = s.nodes ∧ s.N.all (nodeE s.nodes) = true from ⟨HR.out, HT.out, all_of_get 0 HA.out⟩)
          go_wp2_with fail
          refine (rval_any s.what s.width _ s.I _ (HS.out.2.2.1.below B3.out) (by have := HF.out.il; omega)).mono ?_
          rintro e w4 ⟨rfl, hB⟩
          have B4 := Lib.hid (B3.out.trans (hB.mono B3.out.size))
          have K4 := Lib.hid (K3.out.below hB)
          clear c0 c1 c2 c3 c4 c5 c6
          obtain ⟨c0, c1, c2, c3, c4, c5, c6⟩ := K4.out.seven
          clear hB
          cases hv : valueE s.what s.width s.I with
          | false =>
            have HV := Lib.hid (show q = 2 by rw [HQ.out]; exact cs_dom HL.out HNA.out (by rw [hv]; rintro ⟨h, _⟩; cases h))
            clear hv
            go_wp2_with fail
            go_ret
            exact ⟨ret_int HV.out.symm, B4.out⟩
          | true =>
            have HVI := Lib.hid hv
            clear hv
            obtain ⟨_, _, h5, hTc⟩ := HS.out.2.2.2
            simp only [Value.slice.injEq, true_and] at h5
            obtain ⟨rfl, rfl⟩ := h5
            have HTC := Lib.hid hTc
            clear hTc
            go_wp2_with fail
            go_loopw [54] (fun i wr => ∃ k : Nat, k ≤ s.T.length ∧ i = .int .i64 k ∧ Hid (∀ i, i < k → trOk s.what s.width (trAt s.T i) = true) ∧ Below w.heap.size w wr ∧ Bk wr w.heap.size 27 [.int .i64 s.what, .int .i64 s.width, .int .i64 s.nodes, .slice pe s.E.length ce, .slice pn s.N.length cn, .slice pi s.I.length ci, .slice pt s.T.length ct])
              (fun i _ => s.T.length - (intOf i).toNat)
            case atStart => exact ⟨0, Nat.zero_le _, rfl, Lib.hid (fun i h => by omega), B4.out, K4.out⟩
            case round =>
              clear c0 c1 c2 c3 c4 c5 c6
              obtain ⟨k, hk, rfl, HA2, hB, hK⟩ := hrel
              have B5 := Lib.hid hB
              have K5 := Lib.hid hK
              obtain ⟨c0, c1, c2, c3, c4, c5, c6⟩ := hK.seven
              clear hB hK
              by_cases hlt : k < s.T.length
              · obtain ⟨b, off, rfl, hd⟩ := HTC.out (by omega)
                obtain ⟨vg, vk, vl, d0, d1, d2, hV⟩ := hd k hlt
                replace d0 := keepc d0 B5.out
                replace d1 := keepc d1 B5.out
                replace d2 := keepc d2 B5.out
                have HTV := Lib.hid (hV.below B5.out)
                have HBd := Lib.hid (HF.out.tr k hlt)
                obtain ⟨pg, cg, rfl⟩ := ws_len hV.1
                obtain ⟨pk, ck, rfl⟩ := ws_len hV.2.1
                obtain ⟨pl, cl, rfl⟩ := hV.2.2.len
                have hki : (k : Int) < s.T.length := by omega
                have H0k := Lib.hid (show trOk s.what s.width (trAt s.T k) = false → q = 2 from fun h => by
                  rw [HQ.out]; refine cs_dom HL.out HNA.out (fun h2 => ?_)
                  have := all_get ⟨[], [], []⟩ h2.2 k hlt
                  rw [show s.T[k]?.getD ⟨[], [], []⟩ = trAt s.T k from rfl, h] at this; cases this)
                have HSk := Lib.hid (show trOk s.what s.width (trAt s.T k) = true → ∀ i, i < k + 1 → trOk s.what s.width (trAt s.T i) = true from fun e i hi => by
                  rcases (show i < k ∨ i = k by omega) with h | rfl
                  · exact HA2.out i h
                  · exact e)
                clear hd hV
                generalize trAt s.T k = tr at *
                obtain ⟨tg, tk, tl⟩ := tr
                dsimp only at *
                have B6 := Lib.hid (B5.out.alloc B5.out.size (.cells #[.slice pg tg.length cg, .slice pk tk.length ck, .slice pl tl.length cl] 44))
                have K6 := Lib.hid (K5.out.alloc (.cells #[.slice pg tg.length cg, .slice pk tk.length ck, .slice pl tl.length cl] 44))
                have HTV6 := Lib.hid (HTV.out.below ((Below.refl _ _).alloc (Nat.le_refl _) (.cells #[.slice pg tg.length cg, .slice pk tk.length ck, .slice pl tl.length cl] 44)))
                clear c0 c1 c2 c3 c4 c5 c6
                obtain ⟨c0, c1, c2, c3, c4, c5, c6⟩ := K6.out.seven
                go_wp2_with fail
                refine (rtcheck_any s.what s.width _ _ _ tg tk tl _ HTV6.out.1 HTV6.out.2.1 HTV6.out.2.2 HBd.out.1 HBd.out.2.1 (by have := HBd.out.2.2; omega)).mono ?_
                rintro e w7 ⟨rfl, hB⟩
                have B7 := Lib.hid (B6.out.trans (hB.mono B6.out.size))
                have K7 := Lib.hid (K6.out.below hB)
                clear hB d0 d1 d2 c0 c1 c2 c3 c4 c5 c6
                obtain ⟨ce, hce⟩ : ∃ z, z = checkT s.what s.width tg tk tl := ⟨_, rfl⟩
                have NCE := Lib.hid hce
                rw [← hce]
                clear hce
                by_cases h0 : ce = 0
                · subst h0
                  have HS2 := Lib.hid (HSk.out (by unfold trOk trC; rw [← NCE.out]; rfl))
                  go_wp2_with fail
                  go_roundw
                  case rel => exact ⟨k + 1, by omega, by go_num, HS2, B7.out, K7.out⟩
                  case measure => simp [intOf]; omega
                · have hnb : (ce != 0) = true := by simpa using h0
                  have HV := Lib.hid (H0k.out (by unfold trOk trC; rw [← NCE.out]; exact decide_eq_false h0))
                  clear h0
                  go_wp2_with fail
                  go_ret
                  exact ⟨ret_int HV.out.symm, B7.out⟩
              · obtain rfl : k = s.T.length := by omega
                have HV := Lib.hid (show q = 0 by rw [HQ.out]; exact cs_ok HL.out HNA.out ⟨HVI.out, all_of_get ⟨[], [], []⟩ HA2.out⟩)
                go_wp2_with fail
                skip
                go_ret
                exact ⟨ret_int HV.out.symm, B5.out⟩


end Go.Proofs.Ytfeipfemknnhhaa

namespace Go.Proofs.Ytfeipfemknnhhaa
open Go.RowKit

/-- A slice of slices of words that reads as these lists. -/
def Vals (w : World) (v : Value) (ls : List (List Nat)) : Prop :=
  ∃ o c, v = .slice o ls.length c ∧ (0 < ls.length → ∃ b off, o = some ⟨b, off, none⟩ ∧ ∀ j, j < ls.length → ∃ u, w.cell? ⟨b, off + j, none⟩ = some u ∧ Ws w u (lsAt ls j))
theorem Vals.below {w w' : World} {v : Value} {ls : List (List Nat)} (h : Vals w v ls) (k : Below w.heap.size w w') : Vals w' v ls := by
  obtain ⟨o, c, rfl, hc⟩ := h
  refine ⟨o, c, rfl, fun h0 => ?_⟩
  obtain ⟨b, off, rfl, hd⟩ := hc h0
  refine ⟨b, off, rfl, fun j hj => ?_⟩
  obtain ⟨u, h1, h2⟩ := hd j hj
  exact ⟨u, keepc h1 k, h2.below k⟩
theorem Vals.len {w : World} {v : Value} {ls : List (List Nat)} (h : Vals w v ls) : ∃ o c, v = .slice o ls.length c := by
  obtain ⟨o, c, rfl, _⟩ := h
  exact ⟨_, _, rfl⟩
/-- No list of them is too long. -/
def ValsB (n : Nat) (ls : List (List Nat)) : Prop := ∀ j, j < ls.length → (lsAt ls j).length ≤ n
theorem any_not_all {α : Type} (p : α → Bool) (l : List α) : (!(l.any fun x => !(p x))) = l.all p := by
  induction l with
  | nil => rfl
  | cons a l ih => rw [List.any_cons, List.all_cons, Bool.not_or, Bool.not_not, ih]

set_option maxHeartbeats 3200000 in
set_option maxRecDepth 100000 in
theorem copied_any (v : Value) (a : List Nat) (w : World) (h : Ws w v a) (hn : a.length ≤ 100000) :
    Calls Try.prog 87 #[v] w fun e w' => ∃ u, e = .returned u ∧ Ws w' u a ∧ Below w.heap.size w w' := by
  have hmk := make_u64 a.length a.length rfl (by omega)
  obtain ⟨hz, hr⟩ := id h
  have HZ := Lib.hid hz
  have HZS := Lib.hid (zeros_bk w a.length)
  have B0 := Lib.hid ((Below.refl w.heap.size w).alloc (Nat.le_refl _) (.cells (List.replicate a.length (Value.int .u64 0)).toArray 41))
  have HR := Lib.hid (h.below B0.out)
  obtain ⟨p, c, rfl⟩ := ws_len h
  clear h hz hr
  go_enter Try.func87, Try.ntmps87
  go_wp2_with (refine wpList_copy_splice (o := ⟨some 9, _, _, _, _, _⟩) rfl (.tmp 7) (.tmp 8) 24 24 rfl 41 Try.underlying24 (by kernel_rfl) (some ⟨w.heap.size, 0, none⟩) p a.length a.length a.length c rfl rfl w.heap.size 0 (u64s (List.replicate a.length 0)) 41 HZS.out (u64s a) ?c1 ?c2 ?c3 ?c4 w.heap.size w B0.out (Nat.le_refl _) ?_)
  case c1 => simp [u64s]
  case c2 =>
    intro h0
    (try refine ⟨rfl, ?_⟩)
    obtain ⟨_, h | ⟨ad, cc, h, hcell⟩⟩ := HR.out
    · have h2 := h.2
      rw [h2] at h0
      simp [u64s] at h0
    · simp only [Value.slice.injEq, true_and] at h
      obtain ⟨rfl, rfl⟩ := h
      refine ⟨ad, rfl, fun j v hj => ?_⟩
      have hlt : j < a.length := by
        rcases Nat.lt_or_ge j a.length with h | h
        · exact h
        · rw [List.getElem?_eq_none (by simpa [u64s] using h)] at hj; cases hj
      rw [u64s_at a j hlt] at hj
      injection hj with hj
      subst hj
      exact hcell j hlt
  case c3 => simp [u64s]
  case c4 => exact fun u hu => by obtain ⟨_, _, rfl⟩ := List.mem_map.1 hu; rfl
  intro w1 hg hB
  have HG := Lib.hid (show Bk w1 w.heap.size 41 (u64s a) by
    have e : splice (u64s (List.replicate a.length 0)) 0 (u64s a) = u64s a := by simp [splice, u64s]
    have := hg.out
    rw [e] at this
    exact this)
  have B1 := Lib.hid hB
  clear hg hB
  go_wp2_with fail
  go_ret
  exact ⟨_, rfl, HG.out.ws rfl HZ.out, B1.out⟩

set_option maxHeartbeats 3200000 in
set_option maxRecDepth 100000 in
theorem sstart_any (s : SysT) (ve vn vi vt : Value) (v : Int) (w : World) (hL : SysL w ve vn vi vt s) (hb : SysF s) :
    Calls Try.prog 58 #[.agg #[.int .i64 s.what, .int .i64 s.width, .int .i64 s.nodes, ve, vn, vi, vt], .int .i64 v] w fun e w' => ∃ u, e = .returned u ∧ Ws w' u (startE s v) ∧ Below w.heap.size w w' := by
  have HS := Lib.hid hL
  obtain ⟨pe, ce, rfl⟩ := hL.1.len
  obtain ⟨pn, cn, rfl⟩ := hL.2.1.len
  obtain ⟨pi, ci, rfl⟩ := ws_len hL.2.2.1
  obtain ⟨pt, ct, rfl⟩ := hL.2.2.2.len
  have KS := Lib.hid (Bk.new w 27 [.int .i64 s.what, .int .i64 s.width, .int .i64 s.nodes, .slice pe s.E.length ce, .slice pn s.N.length cn, .slice pi s.I.length ci, .slice pt s.T.length ct])
  have B0 := Lib.hid ((Below.refl w.heap.size w).alloc (Nat.le_refl _) (.cells #[.int .i64 s.what, .int .i64 s.width, .int .i64 s.nodes, .slice pe s.E.length ce, .slice pn s.N.length cn, .slice pi s.I.length ci, .slice pt s.T.length ct] 27))
  have HS0 := Lib.hid (HS.out.below B0.out)
  clear hL

  have HF := Lib.hid hb
  clear hb
  have HD := Lib.hid (show startE s v = if inE s.N v = true then s.I else bottomE s.what s.width from rfl)
  obtain ⟨q, hq⟩ : ∃ q, q = startE s v := ⟨_, rfl⟩
  rw [← hq] at HD ⊢
  clear hq
  go_enter Try.func58, Try.ntmps58
  go_wp2_with fail
  refine (icontains_any _ s.N v _ HS0.out.2.1 (by have := HF.out.nl; omega)).mono ?_
  rintro e w1 ⟨rfl, hww⟩
  subst w1
  cases hi : inE s.N v with
  | true =>
    have HV := Lib.hid (show q = s.I by rw [HD.out, hi, if_pos rfl])
    clear hi
    go_wp2_with fail
    refine (copied_any _ s.I _ HS0.out.2.2.1 (by have := HF.out.il; omega)).mono ?_
    rintro e w1 ⟨u, rfl, hW, hB⟩
    have HW := Lib.hid hW
    have B1 := Lib.hid (B0.out.trans (hB.mono B0.out.size))
    clear hW hB
    go_wp2_with fail
    go_ret
    exact ⟨_, rfl, by rw [HV.out]; exact HW.out, B1.out⟩
  | false =>
    have HV := Lib.hid (show q = bottomE s.what s.width by rw [HD.out, hi, if_neg (by decide)])
    clear hi
    go_wp2_with fail
    refine (bottom_any s.what s.width _).mono ?_
    rintro e w1 ⟨u, rfl, hW, hB⟩
    have HW := Lib.hid hW
    have B1 := Lib.hid (B0.out.trans (hB.mono B0.out.size))
    clear hW hB
    go_wp2_with fail
    go_ret
    exact ⟨_, rfl, by rw [HV.out]; exact HW.out, B1.out⟩

set_option maxHeartbeats 3200000 in
set_option maxRecDepth 100000 in
theorem values1_any (s : SysT) (ve vn vi vt va : Value) (a : List Nat) (g : Nat) (w : World) (hk : Bk w g 27 [.int .i64 s.what, .int .i64 s.width, .int .i64 s.nodes, ve, vn, vi, vt]) (hL : SysL w ve vn vi vt s) (ha : Ws w va a) (hn : a.length ≤ 100000) :
    Calls Try.prog 122 #[va, .pointer (some ⟨g, 0, none⟩)] w fun e w' => e = .returned (.bool (!(valueE s.what s.width a))) ∧ Below w.heap.size w w' := by
  have HS := Lib.hid hL
  obtain ⟨pe, ce, rfl⟩ := hL.1.len
  obtain ⟨pn, cn, rfl⟩ := hL.2.1.len
  obtain ⟨pi, ci, rfl⟩ := ws_len hL.2.2.1
  obtain ⟨pt, ct, rfl⟩ := hL.2.2.2.len
  obtain ⟨c0, c1, c2, c3, c4, c5, c6⟩ := hk.seven
  have HA := Lib.hid ha
  obtain ⟨pa, ca, rfl⟩ := ws_len ha
  clear hL hk ha
  go_enter Try.func122, Try.ntmps122
  go_wp2_with fail
  refine (svalue_any s _ _ _ _ _ a _ HS.out HA.out hn).mono ?_
  rintro e w1 ⟨rfl, hB⟩
  have B1 := Lib.hid hB
  clear hB
  go_wp2_with fail
  go_ret
  exact ⟨rfl, B1.out⟩

set_option maxHeartbeats 3200000 in
set_option maxRecDepth 100000 in
theorem vindexfunc_any (F : FuncId) (lb : Array Value) (p : List Nat → Bool) (v : Value) (ls : List (List Nat)) (w : World)
    (el : ∀ args w, (callFunc F args).run Try.prog w = .ok (.enter F args) w)
    (hf : ∀ j w1 u, j < ls.length → Below w.heap.size w w1 → Ws w1 u (lsAt ls j) → Calls Try.prog F (#[u] ++ lb) w1 fun e w' => e = .returned (.bool (p (lsAt ls j))) ∧ Below w1.heap.size w1 w')
    (h : Vals w v ls) (hn : ls.length ≤ 1000000) :
    Calls Try.prog 137 #[v, .func (.func F) #[] lb] w fun e w' => (∃ r : Int, e = .returned (.int .i64 r) ∧ decide (0 ≤ r) = ls.any p) ∧ Below w.heap.size w w' := by
  obtain ⟨o, c, rfl, hc⟩ := h
  have HC := Lib.hid hc
  have HFF := Lib.hid hf
  have B0 := Lib.hid (Below.refl w.heap.size w)
  clear hc hf
  go_enter Try.func137, Try.ntmps137
  go_wp2_with fail
  go_loopw [8] (fun i wr => ∃ k : Nat, k ≤ ls.length ∧ i = .int .i64 k ∧ Hid (∀ i, i < k → p (lsAt ls i) = false) ∧ Below w.heap.size w wr)
    (fun i _ => ls.length - (intOf i).toNat)
  case atStart => exact ⟨0, Nat.zero_le _, rfl, Lib.hid (fun i h => by omega), B0.out⟩
  case round =>
    obtain ⟨k, hk, rfl, HA, hB⟩ := hrel
    have HB := Lib.hid hB
    clear hB
    by_cases hlt : k < ls.length
    · obtain ⟨b, off, rfl, hd⟩ := HC.out (by omega)
      obtain ⟨u, hu, hW⟩ := hd k hlt
      have hck := keepc hu HB.out
      have hcall := HFF.out k wr u hlt HB.out (hW.below HB.out)
      have HCL := Lib.hid hcall
      have H0k := Lib.hid (show p (lsAt ls k) = true → ls.any p = true from fun e => by
        rw [List.any_eq_true]
        refine ⟨ls[k], List.getElem_mem hlt, ?_⟩
        unfold lsAt at e
        rw [List.getElem?_eq_getElem hlt] at e
        exact e)
      have HSk := Lib.hid (show p (lsAt ls k) = false → ∀ i, i < k + 1 → p (lsAt ls i) = false from fun e i hi => by
        rcases (show i < k ∨ i = k by omega) with h | rfl
        · exact HA.out i h
        · exact e)
      have hki : (k : Int) < ls.length := by omega
      obtain ⟨pu, cu, rfl⟩ := ws_len hW
      clear hd hu hW hcall
      go_wp2_with fail
      refine HCL.out.mono ?_
      rintro e w2 ⟨rfl, hB⟩
      have HB2 := Lib.hid (HB.out.trans (hB.mono HB.out.size))
      clear hB hck
      cases hs : p (lsAt ls k) with
      | true =>
        have HV := Lib.hid (H0k.out hs)
        clear hs
        go_wp2_with fail
        go_ret
        exact ⟨⟨_, rfl, by rw [HV.out]; simp⟩, HB2.out⟩
      | false =>
        have HS2 := Lib.hid (HSk.out hs)
        clear hs
        go_wp2_with fail
        go_roundw
        case rel => exact ⟨k + 1, by omega, by go_num, HS2, HB2.out⟩
        case measure => simp [intOf]; omega
    · obtain rfl : k = ls.length := by omega
      have HV := Lib.hid (show ls.any p = false by
        rw [Bool.eq_false_iff]
        intro h2
        obtain ⟨z, hz, he⟩ := List.any_eq_true.1 h2
        obtain ⟨i, hi, rfl⟩ := List.getElem_of_mem hz
        have := HA.out i hi
        unfold lsAt at this
        rw [List.getElem?_eq_getElem hi] at this
        rw [show (some ls[i]).getD [] = ls[i] from rfl, he] at this
        cases this)
      go_wp2_with fail
      go_ret
      exact ⟨⟨_, rfl, by rw [HV.out]; rfl⟩, HB.out⟩

set_option maxHeartbeats 3200000 in
set_option maxRecDepth 100000 in
theorem vcontainsfunc_any (F : FuncId) (lb : Array Value) (p : List Nat → Bool) (v : Value) (ls : List (List Nat)) (w : World)
    (el : ∀ args w, (callFunc F args).run Try.prog w = .ok (.enter F args) w)
    (hf : ∀ j w1 u, j < ls.length → Below w.heap.size w w1 → Ws w1 u (lsAt ls j) → Calls Try.prog F (#[u] ++ lb) w1 fun e w' => e = .returned (.bool (p (lsAt ls j))) ∧ Below w1.heap.size w1 w')
    (h : Vals w v ls) (hn : ls.length ≤ 1000000) :
    Calls Try.prog 121 #[v, .func (.func F) #[] lb] w fun e w' => e = .returned (.bool (ls.any p)) ∧ Below w.heap.size w w' := by
  have H := Lib.hid h
  have HFF := Lib.hid hf
  obtain ⟨o, c, rfl⟩ := h.len
  clear h hf
  go_enter Try.func121, Try.ntmps121
  go_wp2_with fail
  refine (vindexfunc_any F lb p _ ls _ el HFF.out H.out hn).mono ?_
  rintro e w1 ⟨⟨r, rfl, hr⟩, hB⟩
  have HR := Lib.hid hr
  have B1 := Lib.hid hB
  clear hr hB
  go_wp2_with fail
  go_ret
  exact ⟨ret_bool HR.out, B1.out⟩

set_option maxHeartbeats 3200000 in
set_option maxRecDepth 100000 in
theorem svalues_any (s : SysT) (ve vn vi vt : Value) (va : Value) (a : List (List Nat)) (w : World) (hL : SysL w ve vn vi vt s) (ha : Vals w va a) (hn : a.length ≤ 100000) (hm : ValsB 100000 a) :
    Calls Try.prog 93 #[.agg #[.int .i64 s.what, .int .i64 s.width, .int .i64 s.nodes, ve, vn, vi, vt], va] w fun e w' => e = .returned (.bool (valuesE s a)) ∧ Below w.heap.size w w' := by
  have HS := Lib.hid hL
  obtain ⟨pe, ce, rfl⟩ := hL.1.len
  obtain ⟨pn, cn, rfl⟩ := hL.2.1.len
  obtain ⟨pi, ci, rfl⟩ := ws_len hL.2.2.1
  obtain ⟨pt, ct, rfl⟩ := hL.2.2.2.len
  have KS := Lib.hid (Bk.new w 27 [.int .i64 s.what, .int .i64 s.width, .int .i64 s.nodes, .slice pe s.E.length ce, .slice pn s.N.length cn, .slice pi s.I.length ci, .slice pt s.T.length ct])
  have B0 := Lib.hid ((Below.refl w.heap.size w).alloc (Nat.le_refl _) (.cells #[.int .i64 s.what, .int .i64 s.width, .int .i64 s.nodes, .slice pe s.E.length ce, .slice pn s.N.length cn, .slice pi s.I.length ci, .slice pt s.T.length ct] 27))
  have HS0 := Lib.hid (HS.out.below B0.out)
  clear hL

  have HM := Lib.hid hm
  have HA := Lib.hid (ha.below B0.out)
  obtain ⟨pa, ca, rfl⟩ := ha.len
  clear ha hm
  have HD := Lib.hid (show valuesE s a = (decide ((a.length : Int) = s.nodes) && a.all (valueE s.what s.width)) from rfl)
  obtain ⟨q, hq⟩ : ∃ q, q = valuesE s a := ⟨_, rfl⟩
  rw [← hq] at HD ⊢
  clear hq
  by_cases hl : (a.length : Int) = s.nodes
  · have heq : ((a.length : Int) == s.nodes) = true := by simpa using hl
    have HV := Lib.hid (show q = !(a.any fun x => !(valueE s.what s.width x)) by rw [HD.out, decide_eq_true hl, Bool.true_and, any_not_all])
    clear hl
    go_enter Try.func93, Try.ntmps93
    go_wp2_with fail
    refine (vcontainsfunc_any 122 #[.pointer (some ⟨w.heap.size, 0, none⟩)] (fun x => !(valueE s.what s.width x)) _ a _ (enters_of Try.func122 (by kernel_rfl) rfl) (fun j w1 u hj hB hW => values1_any s _ _ _ _ _ (lsAt a j) w.heap.size w1 (KS.out.below hB) (HS0.out.below hB) hW (HM.out j hj)) HA.out (by omega)).mono ?_
    rintro e w1 ⟨rfl, hB⟩
    have B1 := Lib.hid (B0.out.trans (hB.mono B0.out.size))
    clear hB
    obtain ⟨y, hy⟩ : ∃ y, y = a.any fun x => !(valueE s.what s.width x) := ⟨_, rfl⟩
    have HY := Lib.hid (show q = !y by rw [hy]; exact HV.out)
    rw [← hy]
    clear hy
    go_wp2_with fail
    go_ret
    exact ⟨ret_bool HY.out.symm, B1.out⟩
  · have heq : ((a.length : Int) == s.nodes) = false := by simpa using hl
    have HV := Lib.hid (show q = false by rw [HD.out, decide_eq_false hl]; rfl)
    clear hl
    go_enter Try.func93, Try.ntmps93
    go_wp2_with fail
    go_ret
    exact ⟨ret_bool HV.out.symm, B0.out⟩

set_option maxHeartbeats 3200000 in
set_option maxRecDepth 100000 in
theorem in7_any (v : Value) (a : List Int) (x : Int) (w : World) (h : IntsAt w v a) (hn : a.length ≤ 1000000) :
    Calls Try.prog 38 #[v, .int .i64 x] w fun e w' => e = .returned (.bool (inE a x)) ∧ w' = w := by
  obtain ⟨p, c, rfl, hc⟩ := h
  have HC := Lib.hid hc
  clear hc
  go_enter Try.func38, Try.ntmps38
  go_wp2_with fail
  go_loopw [9] (fun i wr => ∃ k : Nat, k ≤ a.length ∧ i = .int .i64 k ∧ Hid (∀ i, i < k → (a[i]?.getD 0) ≠ x) ∧ wr = w)
    (fun i _ => a.length - (intOf i).toNat)
  case atStart => exact ⟨0, Nat.zero_le _, rfl, Lib.hid (fun i h => by omega), rfl⟩
  case round =>
    obtain ⟨k, hk, rfl, HA, rfl⟩ := hrel
    by_cases hlt : k < a.length
    · obtain ⟨b, off, rfl, q⟩ := HC.out (by omega)
      have hck := q k hlt
      have hii : (k : Int) < a.length := by omega
      have H0k := Lib.hid (show (a[k]?.getD 0) = x → inE a x = true from fun e => by
        unfold inE
        rw [List.any_eq_true]
        refine ⟨a[k], List.getElem_mem hlt, ?_⟩
        rw [List.getElem?_eq_getElem hlt] at e
        simpa using e)
      have HS := Lib.hid (show (a[k]?.getD 0) ≠ x → ∀ i, i < k + 1 → (a[i]?.getD 0) ≠ x from fun e i hi => by
        rcases (show i < k ∨ i = k by omega) with h | rfl
        · exact HA.out i h
        · exact e)
      clear q
      generalize a[k]?.getD 0 = z at *
      by_cases hz : z = x
      · subst hz
        have HV := Lib.hid (H0k.out rfl)
        go_wp2_with fail
        go_ret
        exact ⟨ret_bool HV.out.symm, rfl⟩
      · have HS2 := Lib.hid (HS.out hz)
        have hzb : (z == x) = false := by simp; omega
        clear hz
        go_wp2_with fail
        go_roundw
        case rel => exact ⟨k + 1, by omega, by go_num, HS2, trivial⟩
        case measure => simp [intOf]; omega
    · obtain rfl : k = a.length := by omega
      have HV := Lib.hid (show inE a x = false by
        unfold inE
        rw [Bool.eq_false_iff]
        intro h2
        obtain ⟨z, hz, he⟩ := List.any_eq_true.1 h2
        obtain ⟨i, hi, rfl⟩ := List.getElem_of_mem hz
        have := HA.out i hi
        rw [List.getElem?_eq_getElem hi] at this
        exact this (by simpa using he))
      go_wp2_with fail
      go_ret
      exact ⟨ret_bool HV.out.symm, rfl⟩


end Go.Proofs.Ytfeipfemknnhhaa

namespace Go.Proofs.Ytfeipfemknnhhaa
open Go.RowKit

def checkV (s : SysT) (v : Int) : Int := if checkS s = 0 then (if nodeE s.nodes v = true then 0 else 1) else checkS s
theorem cv_bad {s : SysT} (v : Int) (h : checkS s ≠ 0) : checkV s v = checkS s := by unfold checkV; rw [if_neg h]
theorem cv_ok {s : SysT} (v : Int) (h : checkS s = 0) : checkV s v = if nodeE s.nodes v = true then 0 else 1 := by unfold checkV; rw [if_pos h]
theorem cv_zero {s : SysT} {v : Int} (h : checkV s v = 0) : checkS s = 0 ∧ nodeE s.nodes v = true := by
  unfold checkV at h
  split at h
  · rename_i h0
    split at h
    · exact ⟨h0, by assumption⟩
    · exact absurd h (by decide)
  · rename_i h0; exact absurd h h0
/-- A list where nothing is wrong, else none. -/
def okL (c : Int) (l : List Nat) : List Nat := if c = 0 then l else []
theorem okL_no {c : Int} (h : c ≠ 0) (l : List Nat) : okL c l = [] := by unfold okL; rw [if_neg h]
theorem okL_yes (l : List Nat) : okL 0 l = l := by unfold okL; rw [if_pos rfl]
def outC (s : SysT) (v : Int) (a : List Nat) : Int := if checkV s v = 0 then applyC s.what s.width (trAt s.T v.toNat).g (trAt s.T v.toNat).k (trAt s.T v.toNat).l a else checkV s v
def outL (s : SysT) (v : Int) (a : List Nat) : List Nat := if checkV s v = 0 then applyR s.what s.width (trAt s.T v.toNat).g (trAt s.T v.toNat).k (trAt s.T v.toNat).l a else []
theorem ws_nil (w : World) : Ws w (.slice none 0 0) [] := ⟨by simp, .inl ⟨rfl, rfl⟩⟩

set_option maxHeartbeats 3200000 in
set_option maxRecDepth 100000 in
theorem scheckv_any (s : SysT) (ve vn vi vt : Value) (v : Int) (w : World) (hL : SysL w ve vn vi vt s) (hb : SysF s) :
    Calls Try.prog 57 #[.agg #[.int .i64 s.what, .int .i64 s.width, .int .i64 s.nodes, ve, vn, vi, vt], .int .i64 v] w fun e w' => e = .returned (.int .i64 (checkV s v)) ∧ Below w.heap.size w w' := by
  have HS := Lib.hid hL
  obtain ⟨pe, ce, rfl⟩ := hL.1.len
  obtain ⟨pn, cn, rfl⟩ := hL.2.1.len
  obtain ⟨pi, ci, rfl⟩ := ws_len hL.2.2.1
  obtain ⟨pt, ct, rfl⟩ := hL.2.2.2.len
  have KS := Lib.hid (Bk.new w 27 [.int .i64 s.what, .int .i64 s.width, .int .i64 s.nodes, .slice pe s.E.length ce, .slice pn s.N.length cn, .slice pi s.I.length ci, .slice pt s.T.length ct])
  have B0 := Lib.hid ((Below.refl w.heap.size w).alloc (Nat.le_refl _) (.cells #[.int .i64 s.what, .int .i64 s.width, .int .i64 s.nodes, .slice pe s.E.length ce, .slice pn s.N.length cn, .slice pi s.I.length ci, .slice pt s.T.length ct] 27))
  have HS0 := Lib.hid (HS.out.below B0.out)
  clear hL
  have HF := Lib.hid hb
  clear hb

  obtain ⟨q, hq⟩ : ∃ q, q = checkV s v := ⟨_, rfl⟩
  have HQ := Lib.hid hq
  rw [← hq]
  clear hq
  go_enter Try.func57, Try.ntmps57
  go_wp2_with fail
  refine (scheck_any s _ _ _ _ _ HS0.out HF.out).mono ?_
  rintro e w1 ⟨rfl, hB⟩
  have HS1 := Lib.hid (HS0.out.below hB)
  have K0 := KS
  have B1 := Lib.hid (B0.out.trans (hB.mono B0.out.size))
  have K1 := Lib.hid (K0.out.below hB)
  obtain ⟨c0, c1, c2, c3, c4, c5, c6⟩ := K1.out.seven
  clear hB

  obtain ⟨ce, hce⟩ : ∃ z, z = checkS s := ⟨_, rfl⟩
  have Nce := Lib.hid hce
  rw [← hce]
  clear hce

  by_cases h0 : ce = 0
  · subst h0
    have HV := Lib.hid (HQ.out.trans (cv_ok v Nce.out.symm))
    go_wp2_with fail
    refine (snode_any s _ _ _ _ v _ HS1.out).mono ?_
    rintro e w2 ⟨rfl, hB⟩
    have B2 := Lib.hid (B1.out.trans (hB.mono B1.out.size))
    clear hB
    cases hn : nodeE s.nodes v with
    | true =>
      have HV2 := Lib.hid (show q = 0 by rw [HV.out, hn, if_pos rfl])
      clear hn
      go_wp2_with fail
      go_ret
      exact ⟨ret_int HV2.out.symm, B2.out⟩
    | false =>
      have HV2 := Lib.hid (show q = 1 by rw [HV.out, hn, if_neg (by decide)])
      clear hn
      go_wp2_with fail
      go_ret
      exact ⟨ret_int HV2.out.symm, B2.out⟩
  · have hnb : (ce != 0) = true := by simpa using h0
    have HV := Lib.hid (show q = ce from by rw [HQ.out, cv_bad v (by rw [← Nce.out]; exact h0)]; exact Nce.out.symm)
    clear h0
    go_wp2_with fail
    go_ret
    exact ⟨ret_int HV.out.symm, B1.out⟩

set_option maxHeartbeats 3200000 in
set_option maxRecDepth 100000 in
theorem sStart_any (s : SysT) (ve vn vi vt : Value) (v : Int) (w : World) (hL : SysL w ve vn vi vt s) (hb : SysF s) :
    Calls Try.prog 27 #[.agg #[.int .i64 s.what, .int .i64 s.width, .int .i64 s.nodes, ve, vn, vi, vt], .int .i64 v] w fun e w' => ∃ u, e = .returned (.tuple #[u, .int .i64 (checkV s v)]) ∧ Ws w' u (okL (checkV s v) (startE s v)) ∧ Below w.heap.size w w' := by
  have HS := Lib.hid hL
  obtain ⟨pe, ce, rfl⟩ := hL.1.len
  obtain ⟨pn, cn, rfl⟩ := hL.2.1.len
  obtain ⟨pi, ci, rfl⟩ := ws_len hL.2.2.1
  obtain ⟨pt, ct, rfl⟩ := hL.2.2.2.len
  have KS := Lib.hid (Bk.new w 27 [.int .i64 s.what, .int .i64 s.width, .int .i64 s.nodes, .slice pe s.E.length ce, .slice pn s.N.length cn, .slice pi s.I.length ci, .slice pt s.T.length ct])
  have B0 := Lib.hid ((Below.refl w.heap.size w).alloc (Nat.le_refl _) (.cells #[.int .i64 s.what, .int .i64 s.width, .int .i64 s.nodes, .slice pe s.E.length ce, .slice pn s.N.length cn, .slice pi s.I.length ci, .slice pt s.T.length ct] 27))
  have HS0 := Lib.hid (HS.out.below B0.out)
  clear hL
  have HF := Lib.hid hb
  clear hb

  obtain ⟨q, hq⟩ : ∃ q, q = checkV s v := ⟨_, rfl⟩
  have HQ := Lib.hid hq
  rw [← hq]
  clear hq
  go_enter Try.func27, Try.ntmps27
  go_wp2_with fail
  refine (scheckv_any s _ _ _ _ v _ HS0.out HF.out).mono ?_
  rintro e w1 ⟨rfl, hB⟩
  rw [← HQ.out]
  have HS1 := Lib.hid (HS0.out.below hB)
  have K0 := KS
  have B1 := Lib.hid (B0.out.trans (hB.mono B0.out.size))
  have K1 := Lib.hid (K0.out.below hB)
  obtain ⟨c0, c1, c2, c3, c4, c5, c6⟩ := K1.out.seven
  clear hB

  by_cases h0 : q = 0
  · subst h0
    go_wp2_with fail
    refine (sstart_any s _ _ _ _ v _ HS1.out HF.out).mono ?_
    rintro e w2 ⟨u, rfl, hW, hB⟩
    have HW := Lib.hid hW
    have B2 := Lib.hid (B1.out.trans (hB.mono B1.out.size))
    obtain ⟨pu, cu, rfl⟩ := ws_len hW
    clear hW hB
    go_wp2_with fail
    go_ret2
    exact ⟨_, rfl, by rw [okL_yes]; exact HW.out, B2.out⟩
  · have hnb : (q != 0) = true := by simpa using h0
    have HN := Lib.hid h0
    clear h0
    go_wp2_with fail
    go_ret2
    exact ⟨_, rfl, by rw [okL_no HN.out]; exact ws_nil _, B1.out⟩

set_option maxHeartbeats 3200000 in
set_option maxRecDepth 100000 in
theorem sOut_any (s : SysT) (ve vn vi vt : Value) (v : Int) (va : Value) (a : List Nat) (w : World) (hL : SysL w ve vn vi vt s) (hb : SysF s) (ha : Ws w va a) (hn : a.length ≤ 100000) :
    Calls Try.prog 28 #[.agg #[.int .i64 s.what, .int .i64 s.width, .int .i64 s.nodes, ve, vn, vi, vt], .int .i64 v, va] w fun e w' => ∃ u, e = .returned (.tuple #[u, .int .i64 (outC s v a)]) ∧ Ws w' u (outL s v a) ∧ Below w.heap.size w w' := by
  have HS := Lib.hid hL
  obtain ⟨pe, ce, rfl⟩ := hL.1.len
  obtain ⟨pn, cn, rfl⟩ := hL.2.1.len
  obtain ⟨pi, ci, rfl⟩ := ws_len hL.2.2.1
  obtain ⟨pt, ct, rfl⟩ := hL.2.2.2.len
  have KS := Lib.hid (Bk.new w 27 [.int .i64 s.what, .int .i64 s.width, .int .i64 s.nodes, .slice pe s.E.length ce, .slice pn s.N.length cn, .slice pi s.I.length ci, .slice pt s.T.length ct])
  have B0 := Lib.hid ((Below.refl w.heap.size w).alloc (Nat.le_refl _) (.cells #[.int .i64 s.what, .int .i64 s.width, .int .i64 s.nodes, .slice pe s.E.length ce, .slice pn s.N.length cn, .slice pi s.I.length ci, .slice pt s.T.length ct] 27))
  have HS0 := Lib.hid (HS.out.below B0.out)
  clear hL
  have HF := Lib.hid hb
  clear hb

  have HA := Lib.hid (ha.below B0.out)
  obtain ⟨pa, ca, rfl⟩ := ws_len ha
  clear ha
  obtain ⟨qc, hqc⟩ : ∃ q, q = outC s v a := ⟨_, rfl⟩
  obtain ⟨ql, hql⟩ : ∃ q, q = outL s v a := ⟨_, rfl⟩
  have HQC := Lib.hid hqc
  have HQL := Lib.hid hql
  rw [← hqc, ← hql]
  clear hqc hql
  go_enter Try.func28, Try.ntmps28
  go_wp2_with fail
  refine (scheckv_any s _ _ _ _ v _ HS0.out HF.out).mono ?_
  rintro e w1 ⟨rfl, hB⟩
  have HS1 := Lib.hid (HS0.out.below hB)
  have HA1 := Lib.hid (HA.out.below hB)
  have K0 := KS
  have B1 := Lib.hid (B0.out.trans (hB.mono B0.out.size))
  have K1 := Lib.hid (K0.out.below hB)
  obtain ⟨c0, c1, c2, c3, c4, c5, c6⟩ := K1.out.seven
  clear hB

  obtain ⟨ce, hce⟩ : ∃ z, z = checkV s v := ⟨_, rfl⟩
  have Nce := Lib.hid hce
  rw [← hce]
  clear hce

  by_cases h0 : ce = 0
  · subst h0
    have HC1 := Lib.hid (show qc = applyC s.what s.width (trAt s.T v.toNat).g (trAt s.T v.toNat).k (trAt s.T v.toNat).l a by rw [HQC.out]; unfold outC; rw [if_pos Nce.out.symm])
    have HL1 := Lib.hid (show ql = applyR s.what s.width (trAt s.T v.toNat).g (trAt s.T v.toNat).k (trAt s.T v.toNat).l a by rw [HQL.out]; unfold outL; rw [if_pos Nce.out.symm])
    obtain ⟨hcs, hnd⟩ := cv_zero Nce.out.symm
    have hok := okS_of hcs
    obtain ⟨hv0, hv1⟩ := nodeE_iff.1 hnd
    obtain ⟨n, rfl⟩ : ∃ n : Nat, v = n := ⟨v.toNat, by omega⟩
    rw [Int.toNat_natCast] at HC1 HL1
    have hnt : n < s.T.length := by have := hok.tl; omega
    have hni : (n : Int) < s.T.length := by omega
    clear hcs hnd hok hv1 hv0
    obtain ⟨_, _, h5, hTc⟩ := HS1.out.2.2.2
    simp only [Value.slice.injEq, true_and] at h5
    obtain ⟨rfl, rfl⟩ := h5
    obtain ⟨bt, ot, rfl, hd⟩ := hTc (by omega)
    obtain ⟨vg, vk, vl, d0, d1, d2, hV⟩ := hd n hnt
    have HTV := Lib.hid hV
    have HBd := Lib.hid (HF.out.tr n hnt)
    obtain ⟨pg, cg, rfl⟩ := ws_len hV.1
    obtain ⟨pk, ck, rfl⟩ := ws_len hV.2.1
    obtain ⟨pl, cl, rfl⟩ := hV.2.2.len
    clear hd hV hTc
    have HTV := Lib.hid (HTV.out.below (Below.refl w1.heap.size w1).drew)
    have HA1 := Lib.hid (HA1.out.below (Below.refl w1.heap.size w1).drew)
    go_wp2_with fail
    go_region_held3 (fun w' => w'.cell? ⟨w.heap.size, 0, none⟩ = some (.int .i64 s.what) ∧ w'.cell? ⟨w.heap.size, 1, none⟩ = some (.int .i64 s.width) ∧ w'.cell? ⟨w.heap.size, 6, none⟩ = some (.slice (some ⟨bt, ot, none⟩) s.T.length ct) ∧ w'.cell? ⟨bt, ot + n * 3, none⟩ = some (.slice pg (trAt s.T n).g.length cg) ∧ w'.cell? ⟨bt, ot + n * 3 + 1, none⟩ = some (.slice pk (trAt s.T n).k.length ck) ∧ w'.cell? ⟨bt, ot + n * 3 + 2, none⟩ = some (.slice pl (trAt s.T n).l.length cl) ∧ Below w.heap.size w w')
      (first
        | exact ⟨c0, c1, c6, d0, d1, d2, B1.out.drew⟩
        | (go_split_ands; exact ⟨keepc (by assumption) hB, keepc (by assumption) hB, keepc (by assumption) hB, keepc (by assumption) hB, keepc (by assumption) hB, keepc (by assumption) hB, bel_then (by assumption) hB⟩))
      (first
        | (go_at_call 59; refine (tapply_any s.what s.width _ _ _ _ (trAt s.T n).g (trAt s.T n).k a (trAt s.T n).l _ HTV.out.1 HTV.out.2.1 HTV.out.2.2 HA1.out HBd.out.1 HBd.out.2.1 (by have := HBd.out.2.2; omega) hn).mono ?_; rintro e w' ⟨u, rfl, hW, hB⟩; rw [← HL1.out] at hW; have HW := Lib.hid hW; obtain ⟨pu, cu, rfl⟩ := ws_len hW; rw [← HC1.out]; clear hW))
    go_split_ands
    have B2 := Lib.hid (show Below w.heap.size w _ from by assumption)
    go_wp2_with fail
    go_ret2
    exact ⟨_, rfl, HW.out, B2.out⟩
  · have hnb : (ce != 0) = true := by simpa using h0
    have HC1 := Lib.hid (show qc = ce by rw [HQC.out]; unfold outC; rw [← Nce.out, if_neg h0])
    have HL1 := Lib.hid (show ql = [] by rw [HQL.out]; unfold outL; rw [← Nce.out, if_neg h0])
    clear h0
    go_wp2_with fail
    go_ret2
    exact ⟨.slice none 0 0, (by have h := HC1.out; subst h; rfl), by rw [HL1.out]; exact ws_nil _, B1.out⟩


def sbelowE (s : SysT) (a b : List (List Nat)) : Bool := decide (checkS s = 0) && (valuesE s a && (valuesE s b && belowS s a b))



end Go.Proofs.Ytfeipfemknnhhaa

namespace Go.Proofs.Ytfeipfemknnhhaa
open Go.RowKit

/-- Block g holds slices that read as these lists. -/
def VB (w : World) (g : Nat) (ls : List (List Nat)) : Prop :=
  ∃ us : List Value, Bk w g 24 us ∧ us.length = ls.length ∧ ∀ j, j < ls.length → ∃ u, us[j]? = some u ∧ Ws w u (lsAt ls j)
theorem VB.below {w w' : World} {g : Nat} {ls : List (List Nat)} (h : VB w g ls) (k : Below w.heap.size w w') : VB w' g ls := by
  obtain ⟨us, hb, hl, hd⟩ := h
  exact ⟨us, hb.below k, hl, fun j hj => by obtain ⟨u, h1, h2⟩ := hd j hj; exact ⟨u, h1, h2.below k⟩⟩
theorem VB.vals {w : World} {g n c : Nat} {ls : List (List Nat)} (h : VB w g ls) (hn : ls.length = n) : Vals w (.slice (some ⟨g, 0, none⟩) n c) ls := by
  subst hn
  obtain ⟨us, hb, hl, hd⟩ := h
  refine ⟨_, _, rfl, fun _ => ⟨g, 0, rfl, fun j hj => ?_⟩⟩
  obtain ⟨u, h1, h2⟩ := hd j hj
  exact ⟨u, by rw [Nat.zero_add, hb.cell, h1], h2⟩
theorem VB.cell {w : World} {g : Nat} {ls : List (List Nat)} (h : VB w g ls) (j : Nat) (hj : j < ls.length) : ∃ p c, w.cell? ⟨g, j, none⟩ = some (.slice p (lsAt ls j).length c) ∧ Ws w (.slice p (lsAt ls j).length c) (lsAt ls j) ∧ w.frozen? ⟨g, j, none⟩ = false := by
  obtain ⟨us, hb, hl, hd⟩ := h
  obtain ⟨u, h1, h2⟩ := hd j hj
  obtain ⟨p, c, rfl⟩ := ws_len h2
  exact ⟨p, c, by rw [hb.cell, h1], h2, hb.free j⟩
theorem ws_set {w : World} {u v : Value} {a : List Nat} {p : Addr} {o : Option Addr} {n c : Nat} (h : Ws w u a) (hp : w.cell? p = some (.slice o n c)) : Ws (w.setCell p v) u a := by
  obtain ⟨hz, ⟨rfl, rfl⟩ | ⟨ad, k, rfl, hc⟩⟩ := h
  · exact ⟨hz, .inl ⟨rfl, rfl⟩⟩
  · refine ⟨hz, .inr ⟨ad, k, rfl, fun j hj => ?_⟩⟩
    have hne : p ≠ ad.add j := by
      rintro rfl
      rw [hc j hj] at hp
      injection hp with hp
      cases hp
    rw [World.cell?_setCell_other]
    · exact hc j hj
    · exact hne
theorem lsAt_set (ls : List (List Nat)) (k j : Nat) (x : List Nat) : lsAt (ls.set k x) j = if j = k ∧ k < ls.length then x else lsAt ls j := by
  unfold lsAt
  rw [List.getElem?_set]
  by_cases h : k = j
  · subst h
    by_cases hk : k < ls.length
    · simp [hk]
    · simp [hk]
  · have : ¬ j = k := fun e => h e.symm
    simp [h, this]
theorem VB.set {w : World} {g : Nat} {ls : List (List Nat)} (h : VB w g ls) (k : Nat) (hk : k < ls.length) {u : Value} {x : List Nat} (hu : Ws w u x) : VB (w.setCell ⟨g, k, none⟩ u) g (ls.set k x) := by
  obtain ⟨p, c, hcell, _, _⟩ := h.cell k hk
  obtain ⟨us, hb, hl, hd⟩ := h
  refine ⟨us.set k u, hb.set k u, by simp [hl], fun j hj => ?_⟩
  rw [List.length_set] at hj
  rw [lsAt_set]
  by_cases e : j = k
  · subst e
    rw [if_pos ⟨rfl, hk⟩]
    exact ⟨u, by rw [List.getElem?_set_self (by omega)], ws_set hu hcell⟩
  · rw [if_neg (fun h => e h.1)]
    obtain ⟨u', h1, h2⟩ := hd j hj
    exact ⟨u', by rw [List.getElem?_set_ne (fun h => e h.symm)]; exact h1, ws_set h2 hcell⟩
theorem VB.far {w : World} {g g' k : Nat} {ls : List (List Nat)} (h : VB w g ls) (hne : g ≠ g') {o : Option Addr} {n c : Nat} (hp : w.cell? ⟨g', k, none⟩ = some (.slice o n c)) (v : Value) : VB (w.setCell ⟨g', k, none⟩ v) g ls := by
  obtain ⟨us, hb, hl, hd⟩ := h
  refine ⟨us, hb.far (p := ⟨g', k, none⟩) hne v, hl, fun j hj => ?_⟩
  obtain ⟨u, h1, h2⟩ := hd j hj
  exact ⟨u, h1, ws_set h2 hp⟩
theorem VB.lt {w : World} {g : Nat} {ls : List (List Nat)} (h : VB w g ls) : g < w.heap.size := by obtain ⟨us, hb, _⟩ := h; exact hb.lt
theorem VB.new (w : World) (n : Nat) : VB (w.alloc (.cells (List.replicate n (Value.slice none 0 0)).toArray 24)) w.heap.size (List.replicate n []) := by
  refine ⟨List.replicate n (.slice none 0 0), Bk.new w 24 _, by simp, fun j hj => ?_⟩
  have hj' : j < n := by simpa using hj
  refine ⟨.slice none 0 0, by simp [hj'], ?_⟩
  have e : lsAt (List.replicate n []) j = [] := by unfold lsAt; simp [hj']
  rw [e]
  exact ws_nil _
theorem lists_info : (Try.prog.info? 24).map (fun i => (i.zero, i.size, i.bytes)) = some (some (.slice none 0 0), 1, 24) := by kernel_rfl
theorem make_lists (n : Nat) (k : Int) (hk : (n : Int) = k) (hn : n ≤ 100000) (w : World) :
    (Instr.makeSlice 34 (.int .i64 k) (.int .i64 k)).run Try.prog w = .ok (.slice (some ⟨w.heap.size, 0, none⟩) n n) (w.alloc (.cells (List.replicate n (Value.slice none 0 0)).toArray 24)) := by
  subst hk
  have e : madeCells #[Value.slice none 0 0] n = (List.replicate n (Value.slice none 0 0)).toArray := by rw [← Array.toList_inj, toList_madeCells_one]
  rw [← e]
  exact run_make_row' (P := Try.prog) 34 24 (.slice none 0 0) 24 Try.underlying34 lists_info rfl .i64 .i64 n (by omega) (by omega) w
/-- The first k lists made, the others none. -/
def filled (f : Nat → List Nat) (n k : Nat) : List (List Nat) := (List.range n).map fun v => if v < k then f v else []
theorem filled_zero (f : Nat → List Nat) (n : Nat) : filled f n 0 = List.replicate n [] := by
  refine List.ext_getElem (by simp [filled]) fun i h1 h2 => ?_
  simp [filled]
theorem filled_len (f : Nat → List Nat) (n k : Nat) : (filled f n k).length = n := by simp [filled]
theorem filled_step (f : Nat → List Nat) (n k : Nat) : (filled f n k).set k (f k) = filled f n (k + 1) := by
  refine List.ext_getElem (by simp [filled]) fun i h1 h2 => ?_
  rw [List.getElem_set]
  by_cases hk : k = i
  · subst hk; simp [filled]
  · rw [if_neg hk]
    simp only [filled, List.getElem_map, List.getElem_range]
    by_cases hik : i < k
    · rw [if_pos hik, if_pos (by omega)]
    · rw [if_neg hik, if_neg (by omega)]
theorem filled_all (f : Nat → List Nat) (n : Nat) : filled f n n = (List.range n).map f := by
  unfold filled
  exact List.map_congr_left fun i hi => if_pos (List.mem_range.1 hi)
theorem vals_nil (w : World) : Vals w (.slice none 0 0) [] := ⟨none, 0, rfl, by simp⟩
def okV (c : Int) (l : List (List Nat)) : List (List Nat) := if c = 0 then l else []
theorem okV_no {c : Int} (h : c ≠ 0) (l : List (List Nat)) : okV c l = [] := by unfold okV; rw [if_neg h]
theorem okV_yes (l : List (List Nat)) : okV 0 l = l := by unfold okV; rw [if_pos rfl]
theorem bottomS_filled (s : SysT) : bottomS s = filled (fun _ => bottomE s.what s.width) s.nodes.toNat s.nodes.toNat := by
  rw [filled_all]
  unfold bottomS
  refine List.ext_getElem (by simp) fun i h1 h2 => ?_
  simp

set_option maxHeartbeats 3200000 in
set_option maxRecDepth 100000 in
theorem sBottom_any (s : SysT) (ve vn vi vt : Value) (w : World) (hL : SysL w ve vn vi vt s) (hb : SysF s) :
    Calls Try.prog 60 #[.agg #[.int .i64 s.what, .int .i64 s.width, .int .i64 s.nodes, ve, vn, vi, vt]] w fun e w' => ∃ u, e = .returned (.tuple #[u, .int .i64 (checkS s)]) ∧ Vals w' u (okV (checkS s) (bottomS s)) ∧ Below w.heap.size w w' := by
  have HS := Lib.hid hL
  obtain ⟨pe, ce, rfl⟩ := hL.1.len
  obtain ⟨pn, cn, rfl⟩ := hL.2.1.len
  obtain ⟨pi, ci, rfl⟩ := ws_len hL.2.2.1
  obtain ⟨pt, ct, rfl⟩ := hL.2.2.2.len
  have KS := Lib.hid (Bk.new w 27 [.int .i64 s.what, .int .i64 s.width, .int .i64 s.nodes, .slice pe s.E.length ce, .slice pn s.N.length cn, .slice pi s.I.length ci, .slice pt s.T.length ct])
  have B0 := Lib.hid ((Below.refl w.heap.size w).alloc (Nat.le_refl _) (.cells #[.int .i64 s.what, .int .i64 s.width, .int .i64 s.nodes, .slice pe s.E.length ce, .slice pn s.N.length cn, .slice pi s.I.length ci, .slice pt s.T.length ct] 27))
  have HS0 := Lib.hid (HS.out.below B0.out)
  clear hL
  have HF := Lib.hid hb
  clear hb

  obtain ⟨ce, hce⟩ : ∃ z, z = checkS s := ⟨_, rfl⟩
  have Nce := Lib.hid hce
  rw [← hce]
  clear hce
  go_enter Try.func60, Try.ntmps60
  go_wp2_with fail
  refine (scheck_any s _ _ _ _ _ HS0.out HF.out).mono ?_
  rintro e w1 ⟨rfl, hB⟩
  rw [← Nce.out]
  have K0 := KS
  have B1 := Lib.hid (B0.out.trans (hB.mono B0.out.size))
  have K1 := Lib.hid (K0.out.below hB)
  obtain ⟨c0, c1, c2, c3, c4, c5, c6⟩ := K1.out.seven
  clear hB

  by_cases h0 : ce = 0
  · subst h0
    have hok := okS_of Nce.out.symm
    obtain ⟨n, hn⟩ : ∃ n : Nat, s.nodes = n := ⟨s.nodes.toNat, by have := hok.n1; omega⟩
    have hn2 : n ≤ 256 := by have := hok.n2; omega
    have hmk := make_lists n s.nodes hn.symm (by omega)
    have HN := Lib.hid hn
    clear hok hn
    go_wp2_with fail
    clear hmk
    have HEQ := Lib.hid (show bottomS s = filled (fun _ => bottomE s.what s.width) n n by rw [bottomS_filled, HN.out]; rfl)
    have hgs : w.heap.size < w1.heap.size := K1.out.lt
    go_loopw [17] (fun i wr => ∃ k : Nat, k ≤ n ∧ i = .int .i64 k ∧ VB wr w1.heap.size (filled (fun _ => bottomE s.what s.width) n k) ∧ Below w.heap.size w wr ∧ Bk wr w.heap.size 27 [.int .i64 s.what, .int .i64 s.width, .int .i64 s.nodes, .slice pe s.E.length ce, .slice pn s.N.length cn, .slice pi s.I.length ci, .slice pt s.T.length ct])
      (fun i _ => n - (intOf i).toNat)
    case atStart => exact ⟨0, Nat.zero_le _, rfl, by rw [filled_zero]; exact VB.new _ _, B1.out.alloc B1.out.size _, K1.out.alloc _⟩
    case round =>
      clear c0 c1 c2 c3 c4 c5 c6
      obtain ⟨k, hk, rfl, hV, hB, hK⟩ := hrel
      have HV := Lib.hid hV
      have B2 := Lib.hid hB
      have K2 := Lib.hid hK
      obtain ⟨c0, c1, c2, c3, c4, c5, c6⟩ := hK.seven
      clear hV hB hK
      by_cases hlt : k < n
      · go_wp2_with fail
        refine (bottom_any s.what s.width _).mono ?_
        rintro e w3 ⟨u, rfl, hW, hB⟩
        have HV3 := Lib.hid (HV.out.below hB)
        have HW := Lib.hid hW
        clear c0 c1 c2 c3 c4 c5 c6
        have B3 := Lib.hid (B2.out.trans (hB.mono B2.out.size))
        have K3 := Lib.hid (K2.out.below hB)
        obtain ⟨c0, c1, c2, c3, c4, c5, c6⟩ := K3.out.seven
        clear hB
        obtain ⟨p, c, hcell, _, hfree⟩ := HV3.out.cell k (by rw [filled_len]; exact hlt)
        have HV4 := Lib.hid (HV3.out.set k (by rw [filled_len]; exact hlt) HW.out)
        rw [show (filled (fun _ => bottomE s.what s.width) n k).set k (bottomE s.what s.width) = filled (fun _ => bottomE s.what s.width) n (k + 1) from filled_step (fun _ => bottomE s.what s.width) n k] at HV4
        have B4 := Lib.hid (B3.out.setCell (p := ⟨w1.heap.size, k, none⟩) (by show w.heap.size ≤ w1.heap.size; omega) u)
        have K4 := Lib.hid (K3.out.far (p := ⟨w1.heap.size, k, none⟩) (by show w.heap.size ≠ w1.heap.size; omega) u)
        obtain ⟨pu, cu, rfl⟩ := ws_len hW
        generalize (lsAt (filled (fun _ => bottomE s.what s.width) n k) k).length = z at *
        clear hW
        go_wp2_with fail
        go_roundw
        case rel => exact ⟨k + 1, by omega, by go_num, HV4.out, B4.out, K4.out⟩
        case measure => simp [intOf]; omega
      · obtain rfl : k = n := by omega
        go_wp2_with fail
        go_ret2
        exact ⟨_, rfl, by rw [okV_yes, HEQ.out]; exact HV.out.vals (filled_len _ _ _), B2.out⟩
  · have hnb : (ce != 0) = true := by simpa using h0
    have HNZ := Lib.hid h0
    clear h0
    go_wp2_with fail
    go_ret2
    exact ⟨_, rfl, by rw [okV_no HNZ.out]; exact vals_nil _, B1.out⟩


def stepC (s : SysT) (a : List (List Nat)) : Int := if checkS s = 0 then (if valuesE s a = true then 0 else 2) else checkS s
theorem sc_bad {s : SysT} {a : List (List Nat)} (h : checkS s ≠ 0) : stepC s a = checkS s := by unfold stepC; rw [if_neg h]
theorem sc_dom {s : SysT} {a : List (List Nat)} (h : checkS s = 0) (k : valuesE s a = false) : stepC s a = 2 := by unfold stepC; rw [if_pos h, k, if_neg (by decide)]
theorem sc_ok {s : SysT} {a : List (List Nat)} (h : checkS s = 0) (k : valuesE s a = true) : stepC s a = 0 := by unfold stepC; rw [if_pos h, k, if_pos rfl]
def outK (s : SysT) (a : List (List Nat)) (n k : Nat) : List (List Nat) := (List.range n).map fun v : Nat => stepK s a k (v : Int)
theorem outK_len (s : SysT) (a : List (List Nat)) (n k : Nat) : (outK s a n k).length = n := by simp [outK]
theorem outK_at (s : SysT) (a : List (List Nat)) {n v : Nat} (k : Nat) (h : v < n) : lsAt (outK s a n k) v = stepK s a k (v : Int) := by
  unfold lsAt outK
  rw [List.getElem?_map, List.getElem?_range h]
  rfl
theorem outK_step (s : SysT) (a : List (List Nat)) (n : Nat) {k x y : Nat} (hk : k < s.E.length) (he : edAt s.E k = ((x : Int), (y : Int))) :
    (outK s a n k).set y (joinE s.what (stepK s a k (y : Int)) (applyT s x (lsAt a x))) = outK s a n (k + 1) := by
  refine List.ext_getElem (by simp [outK]) fun i h1 h2 => ?_
  rw [List.getElem_set]
  have e1 : (outK s a n (k + 1))[i] = stepK s a (k + 1) (i : Int) := by simp [outK]
  rw [e1, stepK_succ s a k _ hk, he]
  unfold alongE
  by_cases h : y = i
  · subst h
    rw [if_pos rfl, if_pos rfl, Int.toNat_natCast]
  · rw [if_neg h, if_neg (show ¬ ((y : Int) = (i : Int)) by omega)]
    simp [outK]
theorem ltA_of {w : World} {v : Value} {a : List (List Nat)} (h : Vals w v a) : LtA a := by
  intro j hj
  obtain ⟨o, c, rfl, hc⟩ := h
  obtain ⟨b, off, _, hd⟩ := hc (by omega)
  obtain ⟨u, _, hw⟩ := hd j hj
  exact hw.1
theorem ltS_of {w : World} {ve vn vi vt : Value} {s : SysT} (h : SysL w ve vn vi vt s) : LtS s := by
  refine ⟨h.2.2.1.1, fun j hj => ?_⟩
  obtain ⟨o, c, rfl, hc⟩ := h.2.2.2
  obtain ⟨b, off, _, hd⟩ := hc (by omega)
  obtain ⟨vg, vk, vl, _, _, _, ht⟩ := hd j hj
  exact ⟨ht.1.1, ht.2.1.1⟩
theorem value_le {what width : Int} {a : List Nat} (h : valueE what width a = true) : a.length ≤ 1024 := by rw [value_len h]; exact wordsN_le what width

set_option maxHeartbeats 3200000 in
set_option maxRecDepth 100000 in
theorem sStep_any (s : SysT) (ve vn vi vt : Value) (va : Value) (a : List (List Nat)) (w : World) (hL : SysL w ve vn vi vt s) (hb : SysF s) (ha : Vals w va a) (hna : a.length ≤ 100000) (hma : ValsB 100000 a) :
    Calls Try.prog 61 #[.agg #[.int .i64 s.what, .int .i64 s.width, .int .i64 s.nodes, ve, vn, vi, vt], va] w fun e w' => ∃ u, e = .returned (.tuple #[u, .int .i64 (stepC s a)]) ∧ Vals w' u (okV (stepC s a) (stepE s a)) ∧ Below w.heap.size w w' := by
  have HS := Lib.hid hL
  obtain ⟨pe, ce, rfl⟩ := hL.1.len
  obtain ⟨pn, cn, rfl⟩ := hL.2.1.len
  obtain ⟨pi, ci, rfl⟩ := ws_len hL.2.2.1
  obtain ⟨pt, ct, rfl⟩ := hL.2.2.2.len
  have KS := Lib.hid (Bk.new w 27 [.int .i64 s.what, .int .i64 s.width, .int .i64 s.nodes, .slice pe s.E.length ce, .slice pn s.N.length cn, .slice pi s.I.length ci, .slice pt s.T.length ct])
  have B0 := Lib.hid ((Below.refl w.heap.size w).alloc (Nat.le_refl _) (.cells #[.int .i64 s.what, .int .i64 s.width, .int .i64 s.nodes, .slice pe s.E.length ce, .slice pn s.N.length cn, .slice pi s.I.length ci, .slice pt s.T.length ct] 27))
  have HS0 := Lib.hid (HS.out.below B0.out)
  clear hL
  have HF := Lib.hid hb
  clear hb

  have HA0 := Lib.hid (ha.below B0.out)
  have HMA := Lib.hid hma
  have HLA := Lib.hid (ltA_of ha)
  have HLS := Lib.hid (ltS_of HS.out)
  obtain ⟨pa, ca, rfl⟩ := ha.len
  clear ha hma
  obtain ⟨qc, hqc⟩ : ∃ z, z = stepC s a := ⟨_, rfl⟩
  have HQ := Lib.hid hqc
  rw [← hqc]
  clear hqc
  go_enter Try.func61, Try.ntmps61
  go_wp2_with fail
  refine (scheck_any s _ _ _ _ _ HS0.out HF.out).mono ?_
  rintro e w1 ⟨rfl, hB⟩
  have HS1 := Lib.hid (HS0.out.below hB)
  have HA1 := Lib.hid (HA0.out.below hB)
  have K0 := KS
  have B1 := Lib.hid (B0.out.trans (hB.mono B0.out.size))
  have K1 := Lib.hid (K0.out.below hB)
  obtain ⟨c0, c1, c2, c3, c4, c5, c6⟩ := K1.out.seven
  clear hB

  obtain ⟨ce, hce⟩ : ∃ z, z = checkS s := ⟨_, rfl⟩
  have Nce := Lib.hid hce
  rw [← hce]
  clear hce

  by_cases h0 : ce = 0
  case neg =>
    have hnb2 : (ce != 0) = true := by simpa using h0
    have HV := Lib.hid (show qc = ce by rw [HQ.out, sc_bad (by rw [← Nce.out]; exact h0)]; exact Nce.out.symm)
    have HN := Lib.hid h0
    clear h0
    go_wp2_with fail
    go_ret2
    exact ⟨.slice none 0 0, (by have h := HV.out; subst h; rfl), by rw [okV_no (by rw [HV.out]; exact HN.out)]; exact vals_nil _, B1.out⟩
  subst h0
  go_wp2_with fail
  refine (svalues_any s _ _ _ _ _ a _ HS1.out HA1.out hna HMA.out).mono ?_
  rintro e w2 ⟨rfl, hB⟩
  have HS2 := Lib.hid (HS1.out.below hB)
  have HA2 := Lib.hid (HA1.out.below hB)
  clear c0 c1 c2 c3 c4 c5 c6
  have B2 := Lib.hid (B1.out.trans (hB.mono B1.out.size))
  have K2 := Lib.hid (K1.out.below hB)
  obtain ⟨c0, c1, c2, c3, c4, c5, c6⟩ := K2.out.seven
  clear hB

  cases hva : valuesE s a with
  | false =>
    have HV := Lib.hid (show qc = 2 by rw [HQ.out, sc_dom Nce.out.symm hva])
    clear hva
    go_wp2_with fail
    go_ret2
    exact ⟨.slice none 0 0, (by have h := HV.out; subst h; rfl), by rw [okV_no (by rw [HV.out]; decide)]; exact vals_nil _, B2.out⟩
  | true =>
    have HVA := Lib.hid hva
    have HV := Lib.hid (show qc = 0 by rw [HQ.out, sc_ok Nce.out.symm hva])
    clear hva
    have OK := Lib.hid (okS_of Nce.out.symm)
    obtain ⟨n, hn⟩ : ∃ n : Nat, s.nodes = n := ⟨s.nodes.toNat, by have := OK.out.n1; omega⟩
    have hn2 : n ≤ 256 := by have := OK.out.n2; omega
    have hmk := make_lists n s.nodes hn.symm (by omega)
    have HN := Lib.hid hn
    have HNT := Lib.hid (show s.nodes.toNat = n by omega)
    have hTn1 : s.T.length ≤ n := by have := OK.out.tl; omega
    have hTn2 : n ≤ s.T.length := by have := OK.out.tl; omega
    have hAn1 : a.length ≤ n := by have := values_len HVA.out; omega
    have hAn2 : n ≤ a.length := by have := values_len HVA.out; omega
    clear hn
    have hgs : w.heap.size < w2.heap.size := K2.out.lt
    go_wp2_with fail
    go_cut [7, 8] (fun x y wx => ∃ g1 g2, x = .slice (some ⟨g1, 0, none⟩) n n ∧ y = .slice (some ⟨g2, 0, none⟩) n n ∧ g1 ≠ g2 ∧ w2.heap.size ≤ g1 ∧ w2.heap.size ≤ g2 ∧ VB wx g1 (List.replicate n []) ∧ VB wx g2 (List.replicate n []) ∧ Below w2.heap.size w2 wx)
    case first =>
      go_region_held3 (fun w' => w'.cell? ⟨w.heap.size, 2, none⟩ = some (.int .i64 s.nodes) ∧ w'.cell? ⟨w.heap.size, 2, none⟩ = some (.int .i64 s.nodes))
        (first
          | exact ⟨c2, c2⟩
          | (go_split_ands; exact ⟨keepc (by assumption) ((Below.refl _ _).alloc (Nat.le_refl _) _), keepc (by assumption) ((Below.refl _ _).alloc (Nat.le_refl _) _)⟩))
        (fail)
      all_goals
        go_wp2_with fail
        go_meet
        have b1 := ((VB.new w2 n).below ((Below.refl _ _).alloc (Nat.le_refl _) (.cells (List.replicate n (Value.slice none 0 0)).toArray 24))).below (Below.refl _ _).drew
        have b2 := (VB.new (w2.alloc (.cells (List.replicate n (Value.slice none 0 0)).toArray 24)) n).below (Below.refl _ _).drew
        have b3 := (((Below.refl w2.heap.size w2).alloc (Nat.le_refl _) (.cells (List.replicate n (Value.slice none 0 0)).toArray 24)).alloc (by simp) (.cells (List.replicate n (Value.slice none 0 0)).toArray 24)).drew
        first
        | exact ⟨w2.heap.size, w2.heap.size + 1, rfl, rfl, by omega, by omega, by omega, by simpa using b1, by simpa using b2, by simpa using b3⟩
        | exact ⟨w2.heap.size + 1, w2.heap.size, rfl, rfl, by omega, by omega, by omega, by simpa using b2, by simpa using b1, by simpa using b3⟩
    case rest =>
      obtain ⟨g1, g2, rfl, rfl, hg12, hg1, hg2, hV1, hV2, hB⟩ := hcut
      have HV1 := Lib.hid hV1
      have HV2 := Lib.hid hV2
      have B3 := Lib.hid hB
      have hgw1 : w.heap.size ≠ g1 := by omega
      have hgw2 : w.heap.size ≠ g2 := by omega
      obtain ⟨C0, C1, C2, C3, C4, C5, C6⟩ := K2.out.seven
      clear c0 c1 c2 c3 c4 c5 c6 hV1 hV2 hB
      obtain ⟨fs, hfs⟩ : ∃ f : Nat → List Nat, f = fun v : Nat => startE s (v : Int) := ⟨_, rfl⟩
      obtain ⟨ft, hft⟩ : ∃ f : Nat → List Nat, f = fun v : Nat => applyT s v (lsAt a v) := ⟨_, rfl⟩
      have HFS := Lib.hid hfs
      have HFT := Lib.hid hft
      clear hfs hft
      have CS := Lib.hid (And.intro C0 (And.intro C1 C6))
      clear C0 C1 C2 C3 C4 C5 C6 hmk
      go_wp2_with fail
      go_loopw [29] (fun i wr => ∃ k : Nat, k ≤ n ∧ i = .int .i64 k ∧ VB wr g1 (filled fs n k) ∧ VB wr g2 (filled ft n k) ∧ Below w2.heap.size w2 wr)
        (fun i _ => n - (intOf i).toNat)
      case atStart => exact ⟨0, Nat.zero_le _, rfl, by rw [filled_zero]; exact HV1.out, by rw [filled_zero]; exact HV2.out, B3.out⟩
      case round =>
        obtain ⟨k, hk, rfl, hV1, hV2, hB⟩ := hrel
        have HV1 := Lib.hid hV1
        have HV2 := Lib.hid hV2
        have BW := Lib.hid hB
        have K3 := Lib.hid (K2.out.below hB)
        clear hV1 hV2 hB
        by_cases hlt : k < n
        · obtain ⟨c0, c1, c2, c3, c4, c5, c6⟩ := K3.out.seven
          have hki : (k : Int) < n := by omega
          have hkT : (k : Int) < s.T.length := by omega
          have hkA : (k : Int) < a.length := by omega
          go_wp2_with fail
          refine (sstart_any s _ _ _ _ (k : Int) _ (HS2.out.below BW.out) HF.out).mono ?_
          rintro e w3 ⟨u1, rfl, hW, hB⟩
          have HW1 := Lib.hid (show Ws w3 u1 (fs k) by rw [HFS.out]; exact hW)
          have HV13 := Lib.hid (HV1.out.below hB)
          have HV23 := Lib.hid (HV2.out.below hB)
          have B33 := Lib.hid (BW.out.trans (hB.mono BW.out.size))
          have K33 := Lib.hid (K3.out.below hB)
          obtain ⟨pu1, cu1, rfl⟩ := ws_len HW1.out
          obtain ⟨p1, c1', hcell1, _, hfree1⟩ := HV13.out.cell k (by rw [filled_len]; exact hlt)
          have HV14 := Lib.hid (HV13.out.set k (by rw [filled_len]; exact hlt) HW1.out)
          rw [filled_step fs n k] at HV14
          have HV24 := Lib.hid (HV23.out.far (Ne.symm hg12) hcell1 (.slice pu1 (fs k).length cu1))
          have K4 := Lib.hid (K33.out.far (p := ⟨g1, k, none⟩) hgw1 (.slice pu1 (fs k).length cu1))
          have B4 := Lib.hid (B33.out.setCell (p := ⟨g1, k, none⟩) hg1 (.slice pu1 (fs k).length cu1))
          have HV14 := Lib.hid (HV14.out.below (Below.refl _ _).drew)
          have HV24 := Lib.hid (HV24.out.below (Below.refl _ _).drew)
          have K4 := Lib.hid (K4.out.drew)
          clear hW hB c0 c1 c2 c3 c4 c5 c6
          obtain ⟨C0, C1, C6⟩ := CS.out
          obtain ⟨_, _, h5, hTc⟩ := HS2.out.2.2.2
          simp only [Value.slice.injEq, true_and] at h5
          obtain ⟨rfl, rfl⟩ := h5
          obtain ⟨bt, ot, rfl, hd⟩ := hTc (by omega)
          obtain ⟨vg, vk, vl, D0, D1, D2, hV⟩ := hd k (by omega)
          have HTV := Lib.hid hV
          have HBd := Lib.hid (HF.out.tr k (by omega))
          obtain ⟨pg, cg, rfl⟩ := ws_len hV.1
          obtain ⟨pk, ck, rfl⟩ := ws_len hV.2.1
          obtain ⟨pl, cl, rfl⟩ := hV.2.2.len
          obtain ⟨_, _, h5, hac⟩ := HA2.out
          simp only [Value.slice.injEq, true_and] at h5
          obtain ⟨rfl, rfl⟩ := h5
          obtain ⟨ba, oa, rfl, hda⟩ := hac (by omega)
          obtain ⟨vx, E0, hX⟩ := hda k (by omega)
          have HX := Lib.hid hX
          have HXL := Lib.hid (HMA.out k (by omega))
          obtain ⟨px, cx, rfl⟩ := ws_len hX
          have HAR := Lib.hid (show applyR s.what s.width (trAt s.T k).g (trAt s.T k).k (trAt s.T k).l (lsAt a k) = ft k by
            rw [HFT.out, apply_is (OK.out.tr k (by omega)) (values_at HVA.out k (by rw [HNT.out]; exact hlt))]; rfl)
          clear hV hd hTc hX hda hac
          generalize (lsAt (filled fs n k) k).length = z1 at *
          go_wp2_with fail
          clear hcell1 hfree1
          refine wp_region_held_drew (S := (fun w' => w'.cell? ⟨w.heap.size, 0, none⟩ = some (.int .i64 s.what) ∧ w'.cell? ⟨w.heap.size, 1, none⟩ = some (.int .i64 s.width) ∧ w'.cell? ⟨w.heap.size, 6, none⟩ = some (.slice (some ⟨bt, ot, none⟩) s.T.length ct) ∧ w'.cell? ⟨bt, ot + k * 3, none⟩ = some (.slice pg (trAt s.T k).g.length cg) ∧ w'.cell? ⟨bt, ot + k * 3 + 1, none⟩ = some (.slice pk (trAt s.T k).k.length ck) ∧ w'.cell? ⟨bt, ot + k * 3 + 2, none⟩ = some (.slice pl (trAt s.T k).l.length cl) ∧ w'.cell? ⟨ba, oa + k, none⟩ = some (.slice px (lsAt a k).length cx) ∧ Below w2.heap.size w2 w')) (by kernel_rfl) ?_ (fun hHeld => ?_)
          · exact ⟨keepc C0 B4.out.drew, keepc C1 B4.out.drew, keepc C6 B4.out.drew, keepc D0 B4.out.drew, keepc D1 B4.out.drew, keepc D2 B4.out.drew, keepc E0 B4.out.drew, B4.out.drew⟩
          refine take_at 0 (v := ?_) (some 39) rfl rfl (by kernel_rfl) (by kernel_rfl) (by kernel_rfl) (fun _ _ _ h => h) (Or.inl ⟨by rfl, ?_⟩) hHeld ?_
          rotate_left
          · (intro w hSw; (try dsimp only at hSw); go_simp; (try with_reducible rfl))
          simp only [Act.put, List.setIfInBounds_toArray, List.set_cons_zero, List.set_cons_succ]
          refine take_at 1 (v := ?_) (some 40) rfl rfl (by kernel_rfl) (by kernel_rfl) (by kernel_rfl) (fun _ _ _ h => h) (Or.inl ⟨by rfl, ?_⟩) hHeld ?_
          rotate_left
          · (intro w hSw; (try dsimp only at hSw); go_simp; (try with_reducible rfl))
          simp only [Act.put, List.setIfInBounds_toArray, List.set_cons_zero, List.set_cons_succ]
          refine take_at 2 (v := ?_) (some 41) rfl rfl (by kernel_rfl) (by kernel_rfl) (by kernel_rfl) (fun _ _ _ h => h) (Or.inl ⟨by rfl, ?_⟩) hHeld ?_
          rotate_left
          · (intro w hSw; (try dsimp only at hSw); go_simp; (try with_reducible rfl))
          simp only [Act.put, List.setIfInBounds_toArray, List.set_cons_zero, List.set_cons_succ]
          refine take_at 3 (v := ?_) (some 42) rfl rfl (by kernel_rfl) (by kernel_rfl) (by kernel_rfl) (fun _ _ _ h => h) (Or.inl ⟨by rfl, ?_⟩) hHeld ?_
          rotate_left
          · (intro w hSw; (try dsimp only at hSw); go_simp; (try with_reducible rfl))
          simp only [Act.put, List.setIfInBounds_toArray, List.set_cons_zero, List.set_cons_succ]
          refine take_at 4 (v := ?_) (some 43) rfl rfl (by kernel_rfl) (by kernel_rfl) (by kernel_rfl) (fun _ _ _ h => h) (Or.inl ⟨by rfl, ?_⟩) hHeld ?_
          rotate_left
          · (intro w hSw; (try dsimp only at hSw); go_simp; (try with_reducible rfl))
          simp only [Act.put, List.setIfInBounds_toArray, List.set_cons_zero, List.set_cons_succ]
          refine take_at 5 (v := ?_) (some 44) rfl rfl (by kernel_rfl) (by kernel_rfl) (by kernel_rfl) (fun _ _ _ h => h) (Or.inl ⟨by rfl, ?_⟩) hHeld ?_
          rotate_left
          · (intro w hSw; (try dsimp only at hSw); go_simp; (try with_reducible rfl))
          simp only [Act.put, List.setIfInBounds_toArray, List.set_cons_zero, List.set_cons_succ]
          refine take_at 6 (v := ?_) (some 45) rfl rfl (by kernel_rfl) (by kernel_rfl) (by kernel_rfl) (fun _ _ _ h => h) (Or.inl ⟨by rfl, ?_⟩) hHeld ?_
          rotate_left
          · (intro w hSw; (try dsimp only at hSw); go_simp; (try with_reducible rfl))
          simp only [Act.put, List.setIfInBounds_toArray, List.set_cons_zero, List.set_cons_succ]
          refine take_at 7 (v := ?_) (some 46) rfl rfl (by kernel_rfl) (by kernel_rfl) (by kernel_rfl) (fun _ _ _ h => h) (Or.inl ⟨by rfl, ?_⟩) hHeld ?_
          rotate_left
          · (intro w hSw; (try dsimp only at hSw); go_simp; (try with_reducible rfl))
          simp only [Act.put, List.setIfInBounds_toArray, List.set_cons_zero, List.set_cons_succ]
          refine take_at 8 (v := ?_) (some 47) rfl rfl (by kernel_rfl) (by kernel_rfl) (by kernel_rfl) (fun _ _ _ h => h) (Or.inl ⟨by rfl, ?_⟩) hHeld ?_
          rotate_left
          · (intro w hSw; (try dsimp only at hSw); go_simp; (try with_reducible rfl))
          simp only [Act.put, List.setIfInBounds_toArray, List.set_cons_zero, List.set_cons_succ]
          refine take_at 9 (v := ?_) (some 48) rfl rfl (by kernel_rfl) (by kernel_rfl) (by kernel_rfl) (fun _ _ _ h => h) (Or.inl ⟨by rfl, ?_⟩) hHeld ?_
          rotate_left
          · (intro w hSw; (try dsimp only at hSw); go_simp; (try with_reducible rfl))
          simp only [Act.put, List.setIfInBounds_toArray, List.set_cons_zero, List.set_cons_succ]
          refine take_at 10 (v := ?_) (some 49) rfl rfl (by kernel_rfl) (by kernel_rfl) (by kernel_rfl) (fun _ _ _ h => h) (Or.inl ⟨by rfl, ?_⟩) hHeld ?_
          rotate_left
          · (intro w hSw; (try dsimp only at hSw); go_simp; (try with_reducible rfl))
          simp only [Act.put, List.setIfInBounds_toArray, List.set_cons_zero, List.set_cons_succ]
          refine take_at 11 (v := ?_) (some 50) rfl rfl (by kernel_rfl) (by kernel_rfl) (by kernel_rfl) (fun _ _ _ h => h) (Or.inl ⟨by rfl, ?_⟩) hHeld ?_
          rotate_left
          · (intro w hSw; (try dsimp only at hSw); go_simp; (try with_reducible rfl))
          simp only [Act.put, List.setIfInBounds_toArray, List.set_cons_zero, List.set_cons_succ]
          refine take_at 12 (v := ?_) (some 51) rfl rfl (by kernel_rfl) (by kernel_rfl) (by kernel_rfl) (fun _ _ _ h => h) (Or.inl ⟨by rfl, ?_⟩) hHeld ?_
          rotate_left
          · (intro w hSw; (try dsimp only at hSw); go_simp; (try with_reducible rfl))
          simp only [Act.put, List.setIfInBounds_toArray, List.set_cons_zero, List.set_cons_succ]
          refine take_at 13 (v := ?_) (some 52) rfl rfl (by kernel_rfl) (by kernel_rfl) (by kernel_rfl) (fun _ _ _ h => h) (Or.inl ⟨by rfl, ?_⟩) hHeld ?_
          rotate_left
          · (intro w hSw; (try dsimp only at hSw); go_simp; (try with_reducible rfl))
          simp only [Act.put, List.setIfInBounds_toArray, List.set_cons_zero, List.set_cons_succ]
          refine take_at 14 (v := ?_) (some 53) rfl rfl (by kernel_rfl) (by kernel_rfl) (by kernel_rfl) (fun _ _ _ h => h) (Or.inl ⟨by rfl, ?_⟩) hHeld ?_
          rotate_left
          · (intro w hSw; (try dsimp only at hSw); go_simp; (try with_reducible rfl))
          simp only [Act.put, List.setIfInBounds_toArray, List.set_cons_zero, List.set_cons_succ]
          refine wpAnyH_ready (rs := [15]) (by kernel_rfl) (by simp) ?_
          refine AllReadyH.cons rfl (fun K hK => ?_) AllReadyH.nil
          go_simp
          go_at_call 59; go_split_ands; refine (tapply_any s.what s.width _ _ _ _ (trAt s.T k).g (trAt s.T k).k (lsAt a k) (trAt s.T k).l _ (HTV.out.1.below (by assumption)) (HTV.out.2.1.below (by assumption)) (HTV.out.2.2.below (by assumption)) (HX.out.below (by assumption)) HBd.out.1 HBd.out.2.1 (by have := HBd.out.2.2; omega) HXL.out).mono ?_; rintro e w5 ⟨u2, rfl, hW2, hB⟩; rw [HAR.out] at hW2; have HW2 := Lib.hid hW2; have HV15 := Lib.hid (HV14.out.below hB); have HV25 := Lib.hid (HV24.out.below hB); have K5 := Lib.hid (K4.out.below hB); obtain ⟨pu2, cu2, rfl⟩ := ws_len hW2; clear hW2
          go_wp2_with fail
          refine hK.out _ _ ?_ (fun hHeld => ?_)
          · (try dsimp only at hHeld ⊢)
            go_split_ands
            exact ⟨keepc C0 ((show Below w2.heap.size w2 _ by assumption).trans (hB.mono (show Below w2.heap.size w2 _ by assumption).size)), keepc C1 ((show Below w2.heap.size w2 _ by assumption).trans (hB.mono (show Below w2.heap.size w2 _ by assumption).size)), keepc C6 ((show Below w2.heap.size w2 _ by assumption).trans (hB.mono (show Below w2.heap.size w2 _ by assumption).size)), keepc D0 ((show Below w2.heap.size w2 _ by assumption).trans (hB.mono (show Below w2.heap.size w2 _ by assumption).size)), keepc D1 ((show Below w2.heap.size w2 _ by assumption).trans (hB.mono (show Below w2.heap.size w2 _ by assumption).size)), keepc D2 ((show Below w2.heap.size w2 _ by assumption).trans (hB.mono (show Below w2.heap.size w2 _ by assumption).size)), keepc E0 ((show Below w2.heap.size w2 _ by assumption).trans (hB.mono (show Below w2.heap.size w2 _ by assumption).size)), ((show Below w2.heap.size w2 _ by assumption).trans (hB.mono (show Below w2.heap.size w2 _ by assumption).size))⟩
          clear hK K hB
          try simp only [Act.put, List.setIfInBounds_toArray, List.set_cons_zero, List.set_cons_succ]
          refine take_at 16 (v := ?_) (some 38) rfl rfl (by kernel_rfl) (by kernel_rfl) (by kernel_rfl) (fun _ _ _ h => h) (Or.inl ⟨by rfl, ?_⟩) hHeld ?_
          rotate_left
          · (intro w hSw; (try dsimp only at hSw); go_simp; (try with_reducible rfl))
          simp only [Act.put, List.setIfInBounds_toArray, List.set_cons_zero, List.set_cons_succ]
          refine take_at 17 (v := ?_) (some 55) rfl rfl (by kernel_rfl) (by kernel_rfl) (by kernel_rfl) (fun _ _ _ h => h) (Or.inl ⟨by rfl, ?_⟩) hHeld ?_
          rotate_left
          · (intro w hSw; (try dsimp only at hSw); go_simp; (try with_reducible rfl))
          simp only [Act.put, List.setIfInBounds_toArray, List.set_cons_zero, List.set_cons_succ]
          refine take_at 18 (v := ?_) (some 56) rfl rfl (by kernel_rfl) (by kernel_rfl) (by kernel_rfl) (fun _ _ _ h => h) (Or.inl ⟨by rfl, ?_⟩) hHeld ?_
          rotate_left
          · (intro w hSw; (try dsimp only at hSw); go_simp; (try with_reducible rfl))
          simp only [Act.put, List.setIfInBounds_toArray, List.set_cons_zero, List.set_cons_succ]
          refine take_at 19 (v := ?_) (some 57) rfl rfl (by kernel_rfl) (by kernel_rfl) (by kernel_rfl) (fun _ _ _ h => h) (Or.inl ⟨by rfl, ?_⟩) hHeld ?_
          rotate_left
          · (intro w hSw; (try dsimp only at hSw); go_simp; (try with_reducible rfl))
          simp only [Act.put, List.setIfInBounds_toArray, List.set_cons_zero, List.set_cons_succ]
          obtain ⟨p2, c2, hcell2, _, hfree2⟩ := HV25.out.cell k (by rw [filled_len]; exact hlt)
          have HV26 := Lib.hid (HV25.out.set k (by rw [filled_len]; exact hlt) HW2.out)
          rw [filled_step ft n k] at HV26
          have HV16 := Lib.hid (HV15.out.far hg12 hcell2 (.slice pu2 (ft k).length cu2))
          have K6 := Lib.hid (K5.out.far (p := ⟨g2, k, none⟩) hgw2 (.slice pu2 (ft k).length cu2))
          refine wpAnyH_ready (rs := [20]) (by kernel_rfl) (by simp) ?_
          refine AllReadyH.cons rfl (fun K hK => ?_) AllReadyH.nil
          go_simp
          refine hK.out _ _ ?_ (fun hHeld => ?_)
          · (try dsimp only at hHeld ⊢)
            go_split_ands
            exact ⟨keepc C0 ((show Below w2.heap.size w2 _ by assumption).setCell (p := ⟨g2, k, none⟩) (by assumption) _), keepc C1 ((show Below w2.heap.size w2 _ by assumption).setCell (p := ⟨g2, k, none⟩) (by assumption) _), keepc C6 ((show Below w2.heap.size w2 _ by assumption).setCell (p := ⟨g2, k, none⟩) (by assumption) _), keepc D0 ((show Below w2.heap.size w2 _ by assumption).setCell (p := ⟨g2, k, none⟩) (by assumption) _), keepc D1 ((show Below w2.heap.size w2 _ by assumption).setCell (p := ⟨g2, k, none⟩) (by assumption) _), keepc D2 ((show Below w2.heap.size w2 _ by assumption).setCell (p := ⟨g2, k, none⟩) (by assumption) _), keepc E0 ((show Below w2.heap.size w2 _ by assumption).setCell (p := ⟨g2, k, none⟩) (by assumption) _), ((show Below w2.heap.size w2 _ by assumption).setCell (p := ⟨g2, k, none⟩) (by assumption) _)⟩
          clear hK K
          try simp only [Act.put, List.setIfInBounds_toArray, List.set_cons_zero, List.set_cons_succ]
          refine wpAnyH_done (by kernel_rfl) ?_ _
          have B6 := Lib.hid hHeld.2.2.2.2.2.2.2
          clear hHeld hcell2 hfree2
          go_wp2_with fail
          go_roundw
          case rel => exact ⟨k + 1, by omega, by go_num, HV16.out, HV26.out, B6.out⟩
          case measure => simp [intOf]; omega
        · obtain rfl : k = n := by omega
          have HV1 := Lib.hid (show VB wr g1 (outK s a k 0) by
            have h := HV1.out
            rw [filled_all, HFS.out] at h
            have e : outK s a k 0 = (List.range k).map fun v : Nat => startE s (v : Int) := by unfold outK; exact List.map_congr_left fun v _ => stepK_zero s a v
            rw [e]; exact h)
          have HV2 := HV2
          obtain ⟨c0, c1, c2, c3, c4, c5, c6⟩ := K3.out.seven
          obtain ⟨_, _, h5, hEc⟩ := HS2.out.1
          simp only [Value.slice.injEq, true_and] at h5
          obtain ⟨rfl, rfl⟩ := h5
          have HEC := Lib.hid hEc
          clear hEc
          have hel : s.E.length ≤ 1024 := OK.out.el
          go_wp2_with fail
          clear c0 c1 c2 c3 c4 c5 c6
          obtain ⟨n, hnn⟩ : ∃ n, n = k := ⟨k, rfl⟩
          subst hnn
          go_loopw [62] (fun i wr => ∃ k : Nat, k ≤ s.E.length ∧ i = .int .i64 k ∧ VB wr g1 (outK s a n k) ∧ VB wr g2 (filled ft n n) ∧ Below w2.heap.size w2 wr)
            (fun i _ => s.E.length - (intOf i).toNat)
          case atStart => exact ⟨0, Nat.zero_le _, rfl, HV1.out, HV2.out, BW.out⟩
          case round =>
            clear HV1 HV2 BW K3
            obtain ⟨k, hk, rfl, hV1, hV2, hB⟩ := hrel
            have HV1 := Lib.hid hV1
            have HV2 := Lib.hid hV2
            have BW := Lib.hid hB
            have K3 := Lib.hid (K2.out.below hB)
            clear hV1 hV2 hB
            by_cases hlt : k < s.E.length
            · obtain ⟨be, oe, rfl, hd⟩ := HEC.out (by omega)
              obtain ⟨D0, D1⟩ := hd k hlt
              replace D0 := keepc D0 BW.out
              replace D1 := keepc D1 BW.out
              have hbd := OK.out.ed k hlt
              have g0 : (edAt s.E k).1 = (((edAt s.E k).1.toNat : Nat) : Int) := by omega
              have g9 : (edAt s.E k).2 = (((edAt s.E k).2.toNat : Nat) : Int) := by omega
              have HED := Lib.hid (show edAt s.E k = ((((edAt s.E k).1.toNat : Nat) : Int), (((edAt s.E k).2.toNat : Nat) : Int)) from Prod.ext g0 g9)
              have hxn : (edAt s.E k).1.toNat < n := by have := HNT.out; omega
              have hyn : (edAt s.E k).2.toNat < n := by have := HNT.out; omega
              rw [g0] at D0
              rw [g9] at D1
              clear hd hbd g0 g9
              generalize (edAt s.E k).1.toNat = x at *
              generalize (edAt s.E k).2.toNat = y at *
              have HST0 := Lib.hid (outK_step s a n hlt HED.out)
              have OY := Lib.hid (outK_at s a k hyn)
              have FX := Lib.hid (show lsAt (filled ft n n) x = applyT s x (lsAt a x) by
                rw [filled_all]; unfold lsAt; rw [List.getElem?_map, List.getElem?_range hxn, HFT.out]; rfl)
              have HST := Lib.hid (show (outK s a n k).set y (joinE s.what (lsAt (outK s a n k) y) (lsAt (filled ft n n) x)) = outK s a n (k + 1) by rw [OY.out, FX.out]; exact HST0.out)
              have HSV := Lib.hid (stepK_value OK.out HLS.out HLA.out HVA.out (y : Int) k (by omega))
              have HAV := Lib.hid (applyT_value OK.out HLS.out (v := x) (by rw [HNT.out]; exact hxn) (HLA.out x (by omega)) (values_at HVA.out x (by rw [HNT.out]; exact hxn)))
              have HJC := Lib.hid (show (if checkE s.what s.width [lsAt (outK s a n k) y, lsAt (filled ft n n) x] = 0 then joinE s.what (lsAt (outK s a n k) y) (lsAt (filled ft n n) x) else []) = joinE s.what (lsAt (outK s a n k) y) (lsAt (filled ft n n) x) by
                rw [OY.out, FX.out, check_both OK.out.is HSV.out.1 HAV.out, if_pos rfl])
              have HL1 := Lib.hid (show (lsAt (outK s a n k) y).length ≤ 100000 by rw [OY.out]; have := value_le HSV.out.1; omega)
              have HL2 := Lib.hid (show (lsAt (filled ft n n) x).length ≤ 100000 by rw [FX.out]; have := value_le HAV.out; omega)
              have hki : (k : Int) < s.E.length := by omega
              have hxi : (x : Int) < n := by omega
              have hyi : (y : Int) < n := by omega
              have ba := (Below.refl wr.heap.size wr).alloc (Nat.le_refl _) (.cells #[.int .i64 (x : Nat), .int .i64 (y : Nat)] 46)
              have B4 := Lib.hid (BW.out.alloc BW.out.size (.cells #[.int .i64 (x : Nat), .int .i64 (y : Nat)] 46))
              have KE := Lib.hid ((Bk.new wr 46 [.int .i64 (x : Nat), .int .i64 (y : Nat)]).drew)
              have HV14 := Lib.hid ((HV1.out.below ba).below (Below.refl _ _).drew)
              have HV24 := Lib.hid ((HV2.out.below ba).below (Below.refl _ _).drew)
              have K4 := Lib.hid ((K3.out.below ba).drew)
              have hgr1 : g1 < wr.heap.size := HV1.out.lt
              have hgr2 : g2 < wr.heap.size := HV2.out.lt
              have hgrw : w2.heap.size ≤ wr.heap.size := BW.out.size
              obtain ⟨q1, e1, f0, hWa, _⟩ := HV14.out.cell y (by rw [outK_len]; exact hyn)
              obtain ⟨q2, e2, f1, hWb, _⟩ := HV24.out.cell x (by rw [filled_len]; exact hxn)
              have HW1 := Lib.hid hWa
              have HW2 := Lib.hid hWb
              have x0 := KE.out.cell 0
              have x1 := KE.out.cell 1
              simp only [List.getElem?_cons_succ, List.getElem?_cons_zero] at x0 x1
              obtain ⟨c0, c1, c2, c3, c4, c5, c6⟩ := K4.out.seven
              clear ba hWa hWb
              go_wp2_with fail
              refine wp_region_held_drew (S := (fun w' => w'.cell? ⟨w.heap.size, 0, none⟩ = some (.int .i64 s.what) ∧ w'.cell? ⟨w.heap.size, 1, none⟩ = some (.int .i64 s.width) ∧ w'.cell? ⟨wr.heap.size, 0, none⟩ = some (.int .i64 (x : Nat)) ∧ w'.cell? ⟨wr.heap.size, 1, none⟩ = some (.int .i64 (y : Nat)) ∧ w'.cell? ⟨g2, x, none⟩ = some (.slice q2 (lsAt (filled ft n n) x).length e2) ∧ Below w2.heap.size w2 w')) (by kernel_rfl) ?_ (fun hHeld => ?_)
              · exact ⟨c0, c1, x0, x1, f1, B4.out.drew⟩
              refine take_at 0 (v := ?_) (some 67) rfl rfl (by kernel_rfl) (by kernel_rfl) (by kernel_rfl) (fun _ _ _ h => h) (Or.inl ⟨by rfl, ?_⟩) hHeld ?_
              rotate_left
              · (intro w hSw; (try dsimp only at hSw); go_simp; (try with_reducible rfl))
              simp only [Act.put, List.setIfInBounds_toArray, List.set_cons_zero, List.set_cons_succ]
              refine take_at 1 (v := ?_) (some 68) rfl rfl (by kernel_rfl) (by kernel_rfl) (by kernel_rfl) (fun _ _ _ h => h) (Or.inl ⟨by rfl, ?_⟩) hHeld ?_
              rotate_left
              · (intro w hSw; (try dsimp only at hSw); go_simp; (try with_reducible rfl))
              simp only [Act.put, List.setIfInBounds_toArray, List.set_cons_zero, List.set_cons_succ]
              refine take_at 2 (v := ?_) (some 69) rfl rfl (by kernel_rfl) (by kernel_rfl) (by kernel_rfl) (fun _ _ _ h => h) (Or.inl ⟨by rfl, ?_⟩) hHeld ?_
              rotate_left
              · (intro w hSw; (try dsimp only at hSw); go_simp; (try with_reducible rfl))
              simp only [Act.put, List.setIfInBounds_toArray, List.set_cons_zero, List.set_cons_succ]
              refine take_at 3 (v := ?_) (some 70) rfl rfl (by kernel_rfl) (by kernel_rfl) (by kernel_rfl) (fun _ _ _ h => h) (Or.inl ⟨by rfl, ?_⟩) hHeld ?_
              rotate_left
              · (intro w hSw; (try dsimp only at hSw); go_simp; (try with_reducible rfl))
              simp only [Act.put, List.setIfInBounds_toArray, List.set_cons_zero, List.set_cons_succ]
              refine take_at 4 (v := ?_) (some 71) rfl rfl (by kernel_rfl) (by kernel_rfl) (by kernel_rfl) (fun _ _ _ h => h) (Or.inl ⟨by rfl, ?_⟩) hHeld ?_
              rotate_left
              · (intro w hSw; (try dsimp only at hSw); go_simp; (try with_reducible rfl))
              simp only [Act.put, List.setIfInBounds_toArray, List.set_cons_zero, List.set_cons_succ]
              refine take_at 5 (v := ?_) (some 72) rfl rfl (by kernel_rfl) (by kernel_rfl) (by kernel_rfl) (fun _ _ _ h => h) (Or.inl ⟨by rfl, ?_⟩) hHeld ?_
              rotate_left
              · (intro w hSw; (try dsimp only at hSw); go_simp; (try with_reducible rfl))
              simp only [Act.put, List.setIfInBounds_toArray, List.set_cons_zero, List.set_cons_succ]
              refine take_at 6 (v := ?_) (some 73) rfl rfl (by kernel_rfl) (by kernel_rfl) (by kernel_rfl) (fun _ _ _ h => h) (Or.inl ⟨by rfl, ?_⟩) hHeld ?_
              rotate_left
              · (intro w hSw; (try dsimp only at hSw); go_simp; (try with_reducible rfl))
              simp only [Act.put, List.setIfInBounds_toArray, List.set_cons_zero, List.set_cons_succ]
              refine take_at 7 (v := ?_) (some 74) rfl rfl (by kernel_rfl) (by kernel_rfl) (by kernel_rfl) (fun _ _ _ h => h) (Or.inl ⟨by rfl, ?_⟩) hHeld ?_
              rotate_left
              · (intro w hSw; (try dsimp only at hSw); go_simp; (try with_reducible rfl))
              simp only [Act.put, List.setIfInBounds_toArray, List.set_cons_zero, List.set_cons_succ]
              refine take_at 8 (v := ?_) (some 75) rfl rfl (by kernel_rfl) (by kernel_rfl) (by kernel_rfl) (fun _ _ _ h => h) (Or.inl ⟨by rfl, ?_⟩) hHeld ?_
              rotate_left
              · (intro w hSw; (try dsimp only at hSw); go_simp; (try with_reducible rfl))
              simp only [Act.put, List.setIfInBounds_toArray, List.set_cons_zero, List.set_cons_succ]
              refine take_at 9 (v := ?_) (some 76) rfl rfl (by kernel_rfl) (by kernel_rfl) (by kernel_rfl) (fun _ _ _ h => h) (Or.inl ⟨by rfl, ?_⟩) hHeld ?_
              rotate_left
              · (intro w hSw; (try dsimp only at hSw); go_simp; (try with_reducible rfl))
              simp only [Act.put, List.setIfInBounds_toArray, List.set_cons_zero, List.set_cons_succ]
              refine take_at 10 (v := ?_) (some 77) rfl rfl (by kernel_rfl) (by kernel_rfl) (by kernel_rfl) (fun _ _ _ h => h) (Or.inl ⟨by rfl, ?_⟩) hHeld ?_
              rotate_left
              · (intro w hSw; (try dsimp only at hSw); go_simp; (try with_reducible rfl))
              simp only [Act.put, List.setIfInBounds_toArray, List.set_cons_zero, List.set_cons_succ]
              refine take_at 12 (v := ?_) (some 79) rfl rfl (by kernel_rfl) (by kernel_rfl) (by kernel_rfl) (fun _ _ _ h => h) (Or.inl ⟨by rfl, ?_⟩) hHeld ?_
              rotate_left
              · (intro w hSw; (try dsimp only at hSw); go_simp; (try with_reducible rfl))
              simp only [Act.put, List.setIfInBounds_toArray, List.set_cons_zero, List.set_cons_succ]
              refine take_at 13 (v := ?_) (some 80) rfl rfl (by kernel_rfl) (by kernel_rfl) (by kernel_rfl) (fun _ _ _ h => h) (Or.inl ⟨by rfl, ?_⟩) hHeld ?_
              rotate_left
              · (intro w hSw; (try dsimp only at hSw); go_simp; (try with_reducible rfl))
              simp only [Act.put, List.setIfInBounds_toArray, List.set_cons_zero, List.set_cons_succ]
              refine take_at 14 (v := ?_) (some 81) rfl rfl (by kernel_rfl) (by kernel_rfl) (by kernel_rfl) (fun _ _ _ h => h) (Or.inl ⟨by rfl, ?_⟩) hHeld ?_
              rotate_left
              · (intro w hSw; (try dsimp only at hSw); go_simp; (try with_reducible rfl))
              simp only [Act.put, List.setIfInBounds_toArray, List.set_cons_zero, List.set_cons_succ]
              refine take_at 15 (v := ?_) (some 82) rfl rfl (by kernel_rfl) (by kernel_rfl) (by kernel_rfl) (fun _ _ _ h => h) (Or.inl ⟨by rfl, ?_⟩) hHeld ?_
              rotate_left
              · (intro w hSw; (try dsimp only at hSw); go_simp; (try with_reducible rfl))
              simp only [Act.put, List.setIfInBounds_toArray, List.set_cons_zero, List.set_cons_succ]
              refine take_at 16 (v := ?_) (some 83) rfl rfl (by kernel_rfl) (by kernel_rfl) (by kernel_rfl) (fun _ _ _ h => h) (Or.inl ⟨by rfl, ?_⟩) hHeld ?_
              rotate_left
              · (intro w hSw; (try dsimp only at hSw); go_simp; (try with_reducible rfl))
              simp only [Act.put, List.setIfInBounds_toArray, List.set_cons_zero, List.set_cons_succ]
              refine wpAnyH_ready (rs := [11]) (by kernel_rfl) (by simp) ?_
              refine AllReadyH.cons rfl (fun K hK => ?_) AllReadyH.nil
              go_simp
              refine hK.out _ _ ?_ (fun hHeld => ?_)
              · (try dsimp only at hHeld ⊢)
                go_split_ands
                exact ⟨by assumption, by assumption, by assumption, by assumption, by assumption, by assumption⟩
              clear hK K
              try simp only [Act.put, List.setIfInBounds_toArray, List.set_cons_zero, List.set_cons_succ]
              refine wpAnyH_ready (rs := [17]) (by kernel_rfl) (by simp) ?_
              refine AllReadyH.cons rfl (fun K hK => ?_) AllReadyH.nil
              go_simp
              go_at_call 94; go_split_ands; refine (ljoin_any s.what s.width _ _ (lsAt (outK s a n k) y) (lsAt (filled ft n n) x) _ HW1.out HW2.out HL1.out HL2.out).mono ?_; rintro e w5 ⟨u2, rfl, hW3, hB⟩; rw [HJC.out] at hW3; have HW3 := Lib.hid hW3; have HV15 := Lib.hid (HV14.out.below hB); have HV25 := Lib.hid (HV24.out.below hB); have K5 := Lib.hid (K4.out.below hB); obtain ⟨pu2, cu2, rfl⟩ := ws_len hW3; clear hW3
              go_wp2_with fail
              refine hK.out _ _ ?_ (fun hHeld => ?_)
              · (try dsimp only at hHeld ⊢)
                go_split_ands
                exact ⟨keepc (by assumption) hB, keepc (by assumption) hB, keepc (by assumption) hB, keepc (by assumption) hB, keepc (by assumption) hB, ((show Below w2.heap.size w2 _ by assumption).trans (hB.mono (show Below w2.heap.size w2 _ by assumption).size))⟩
              clear hK K hB
              try simp only [Act.put, List.setIfInBounds_toArray, List.set_cons_zero, List.set_cons_succ]
              refine take_at 18 (v := ?_) (some 66) rfl rfl (by kernel_rfl) (by kernel_rfl) (by kernel_rfl) (fun _ _ _ h => h) (Or.inl ⟨by rfl, ?_⟩) hHeld ?_
              rotate_left
              · (intro w hSw; (try dsimp only at hSw); go_simp; (try with_reducible rfl))
              simp only [Act.put, List.setIfInBounds_toArray, List.set_cons_zero, List.set_cons_succ]
              refine take_at 19 (v := ?_) (some 85) rfl rfl (by kernel_rfl) (by kernel_rfl) (by kernel_rfl) (fun _ _ _ h => h) (Or.inl ⟨by rfl, ?_⟩) hHeld ?_
              rotate_left
              · (intro w hSw; (try dsimp only at hSw); go_simp; (try with_reducible rfl))
              simp only [Act.put, List.setIfInBounds_toArray, List.set_cons_zero, List.set_cons_succ]
              refine take_at 20 (v := ?_) (some 86) rfl rfl (by kernel_rfl) (by kernel_rfl) (by kernel_rfl) (fun _ _ _ h => h) (Or.inl ⟨by rfl, ?_⟩) hHeld ?_
              rotate_left
              · (intro w hSw; (try dsimp only at hSw); go_simp; (try with_reducible rfl))
              simp only [Act.put, List.setIfInBounds_toArray, List.set_cons_zero, List.set_cons_succ]
              refine take_at 21 (v := ?_) (some 87) rfl rfl (by kernel_rfl) (by kernel_rfl) (by kernel_rfl) (fun _ _ _ h => h) (Or.inl ⟨by rfl, ?_⟩) hHeld ?_
              rotate_left
              · (intro w hSw; (try dsimp only at hSw); go_simp; (try with_reducible rfl))
              simp only [Act.put, List.setIfInBounds_toArray, List.set_cons_zero, List.set_cons_succ]
              obtain ⟨p3, c3', hcell3, _, hfree3⟩ := HV15.out.cell y (by rw [outK_len]; exact hyn)
              have HV16 := Lib.hid (HV15.out.set y (by rw [outK_len]; exact hyn) HW3.out)
              rw [HST.out] at HV16
              have HV26 := Lib.hid (HV25.out.far (Ne.symm hg12) hcell3 (.slice pu2 (joinE s.what (lsAt (outK s a n k) y) (lsAt (filled ft n n) x)).length cu2))
              have K6 := Lib.hid (K5.out.far (p := ⟨g1, y, none⟩) hgw1 (.slice pu2 (joinE s.what (lsAt (outK s a n k) y) (lsAt (filled ft n n) x)).length cu2))
              refine wpAnyH_ready (rs := [22]) (by kernel_rfl) (by simp) ?_
              refine AllReadyH.cons rfl (fun K hK => ?_) AllReadyH.nil
              go_simp
              refine hK.out _ _ ?_ (fun hHeld => ?_)
              · (try dsimp only at hHeld ⊢)
                go_split_ands
                exact ⟨set_other (by assumption) (.inl (by show g1 ≠ w.heap.size; omega)), set_other (by assumption) (.inl (by show g1 ≠ w.heap.size; omega)), set_other (by assumption) (.inl (by show g1 ≠ wr.heap.size; omega)), set_other (by assumption) (.inl (by show g1 ≠ wr.heap.size; omega)), set_other (by assumption) (.inl hg12), (show Below w2.heap.size w2 _ by assumption).setCell (p := ⟨g1, y, none⟩) (by assumption) _⟩
              clear hK K
              try simp only [Act.put, List.setIfInBounds_toArray, List.set_cons_zero, List.set_cons_succ]
              refine wpAnyH_done (by kernel_rfl) ?_ _
              have B6 := Lib.hid hHeld.2.2.2.2.2
              clear hHeld hcell3 hfree3
              go_wp2_with fail
              go_roundw
              case rel => exact ⟨k + 1, by omega, by go_num, HV16.out, HV26.out, B6.out⟩
              case measure => simp [intOf]; omega
            · obtain rfl : k = s.E.length := by omega
              have HVS := Lib.hid (show VB wr g1 (stepE s a) by
                have e : stepE s a = outK s a n s.E.length := by unfold stepE outK; rw [HNT.out]
                rw [e]; exact HV1.out)
              have BZ := Lib.hid (B2.out.trans (BW.out.mono B2.out.size))
              go_wp2_with fail
              go_ret2
              exact ⟨_, (by have h := HV.out; subst h; rfl), by rw [HV.out, okV_yes]; exact HVS.out.vals (by rw [step_len, HNT.out]), BZ.out⟩


end Go.Proofs.Ytfeipfemknnhhaa

namespace Go.Proofs.Ytfeipfemknnhhaa
open Go.RowKit

/-- What Small's yes says of a system. -/
structure SmallS (s : SysT) : Prop where
  nw : (s.nodes ≤ 7 ∧ s.width ≤ 10) ∨ 256 < s.nodes ∨ 1024 < s.width
  el : s.E.length ≤ 16
  nl : s.N.length ≤ 10
  il : s.I.length ≤ 20
  tl : s.T.length ≤ 8
  tr : ∀ j, j < s.T.length → (trAt s.T j).g.length ≤ 4 ∧ (trAt s.T j).k.length ≤ 4 ∧ (trAt s.T j).l.length ≤ 6
theorem SmallS.f {s : SysT} (h : SmallS s) : SysF s :=
  ⟨by have := h.el; omega, by have := h.nl; omega, by have := h.il; omega, by have := h.tl; omega, fun j hj => by have := h.tr j hj; omega⟩
theorem SmallS.ok {s : SysT} (h : SmallS s) (k : OkS s) : s.nodes ≤ 7 ∧ s.width ≤ 10 := by
  have h1 := h.nw
  have h2 := k.n2
  have h3 := isL_width k.is
  omega
/-- What the law may count on of a system that came in. -/
theorem sysB_lens {s : SysT} (h : SysB s) : s.E.length ≤ 9223372036854775807 ∧ s.N.length ≤ 9223372036854775807 ∧ s.I.length ≤ 9223372036854775807 ∧ s.T.length ≤ 9223372036854775807 := ⟨h.1, h.2.1, h.2.2.1, h.2.2.2.1⟩
/-- A bool, and what its yes says. -/
def SomeB (P : Prop) (e : Ending) : Prop := ∃ b : Bool, e = .returned (.bool b) ∧ (b = true → P)
theorem SomeB.no {P : Prop} : SomeB P (.returned (.bool false)) := ⟨false, rfl, fun h => by cases h⟩
theorem SomeB.yes {P : Prop} (h : P) : SomeB P (.returned (.bool true)) := ⟨true, rfl, fun _ => h⟩
theorem trB_at {s : SysT} (h : SysB s) (j : Nat) (hj : j < s.T.length) : TrB (trAt s.T j) := by
  unfold trAt
  rw [List.getElem?_eq_getElem hj]
  exact h.2.2.2.2 _ (List.getElem_mem hj)

set_option maxHeartbeats 3200000 in
set_option maxRecDepth 100000 in
theorem rsmall_any (s : SysT) (ve vn vi vt : Value) (w : World) (hL : SysL w ve vn vi vt s) (hb : SysB s) :
    Calls Try.prog 8 #[.agg #[.int .i64 s.what, .int .i64 s.width, .int .i64 s.nodes, ve, vn, vi, vt]] w fun e w' => SomeB (SmallS s) e ∧ Below w.heap.size w w' := by
  have HS := Lib.hid hL
  obtain ⟨pe, ce, rfl⟩ := hL.1.len
  obtain ⟨pn, cn, rfl⟩ := hL.2.1.len
  obtain ⟨pi, ci, rfl⟩ := ws_len hL.2.2.1
  obtain ⟨pt, ct, rfl⟩ := hL.2.2.2.len
  have KS := Lib.hid (Bk.new w 27 [.int .i64 s.what, .int .i64 s.width, .int .i64 s.nodes, .slice pe s.E.length ce, .slice pn s.N.length cn, .slice pi s.I.length ci, .slice pt s.T.length ct])
  have B0 := Lib.hid ((Below.refl w.heap.size w).alloc (Nat.le_refl _) (.cells #[.int .i64 s.what, .int .i64 s.width, .int .i64 s.nodes, .slice pe s.E.length ce, .slice pn s.N.length cn, .slice pi s.I.length ci, .slice pt s.T.length ct] 27))
  have HS0 := Lib.hid (HS.out.below B0.out)
  clear hL

  have HF := Lib.hid hb
  obtain ⟨m1, m2, m3, m4⟩ := sysB_lens hb
  clear hb
  go_enter Try.func8, Try.ntmps8
  by_cases hno : (7 < s.nodes ∨ 10 < s.width) ∧ s.nodes ≤ 256 ∧ s.width ≤ 1024
  · have hways : (7 < s.nodes ∧ s.nodes ≤ 256 ∧ s.width ≤ 1024) ∨ (s.nodes ≤ 7 ∧ 10 < s.width ∧ s.nodes ≤ 256 ∧ s.width ≤ 1024) := by omega
    clear hno
    rcases hways with ⟨a1, a2, a3⟩ | ⟨a1, a2, a3, a4⟩
    · go_wp2_with fail
      go_ret
      exact ⟨SomeB.no, B0.out⟩
    · go_wp2_with fail
      go_ret
      exact ⟨SomeB.no, B0.out⟩
  have HNW := Lib.hid (show (s.nodes ≤ 7 ∧ s.width ≤ 10) ∨ 256 < s.nodes ∨ 1024 < s.width by omega)
  have hways : (s.nodes ≤ 7 ∧ s.width ≤ 10) ∨ (7 < s.nodes ∧ 256 < s.nodes) ∨ (7 < s.nodes ∧ s.nodes ≤ 256 ∧ 1024 < s.width) ∨ (s.nodes ≤ 7 ∧ 10 < s.width ∧ s.nodes ≤ 256 ∧ 1024 < s.width) := by omega
  clear hno
  by_cases b1 : 8 < s.T.length
  · have b1' : (8 : Int) < s.T.length := by omega
    rcases hways with ⟨a1, a2⟩ | ⟨a1, a2⟩ | ⟨a1, a2, a3⟩ | ⟨a1, a2, a3, a4⟩
    all_goals
      go_wp2_with fail
      go_ret
      exact ⟨SomeB.no, B0.out⟩
  have d1 : (s.T.length : Int) ≤ 8 := by omega
  clear b1
  by_cases b2 : 16 < s.E.length
  · have b2' : (16 : Int) < s.E.length := by omega
    rcases hways with ⟨a1, a2⟩ | ⟨a1, a2⟩ | ⟨a1, a2, a3⟩ | ⟨a1, a2, a3, a4⟩
    all_goals
      go_wp2_with fail
      go_ret
      exact ⟨SomeB.no, B0.out⟩
  have d2 : (s.E.length : Int) ≤ 16 := by omega
  clear b2
  by_cases b3 : 10 < s.N.length
  · have b3' : (10 : Int) < s.N.length := by omega
    rcases hways with ⟨a1, a2⟩ | ⟨a1, a2⟩ | ⟨a1, a2, a3⟩ | ⟨a1, a2, a3, a4⟩
    all_goals
      go_wp2_with fail
      go_ret
      exact ⟨SomeB.no, B0.out⟩
  have d3 : (s.N.length : Int) ≤ 10 := by omega
  clear b3
  by_cases b4 : 20 < s.I.length
  · have b4' : (20 : Int) < s.I.length := by omega
    rcases hways with ⟨a1, a2⟩ | ⟨a1, a2⟩ | ⟨a1, a2, a3⟩ | ⟨a1, a2, a3, a4⟩
    all_goals
      go_wp2_with fail
      go_ret
      exact ⟨SomeB.no, B0.out⟩
  have d4 : (s.I.length : Int) ≤ 20 := by omega
  clear b4
  obtain ⟨_, _, h5, hTc⟩ := HS.out.2.2.2
  simp only [Value.slice.injEq, true_and] at h5
  obtain ⟨rfl, rfl⟩ := h5
  have HTC := Lib.hid hTc
  have HDD := Lib.hid (show s.E.length ≤ 16 ∧ s.N.length ≤ 10 ∧ s.I.length ≤ 20 ∧ s.T.length ≤ 8 by omega)
  clear hTc
  rcases hways with ⟨a1, a2⟩ | ⟨a1, a2⟩ | ⟨a1, a2, a3⟩ | ⟨a1, a2, a3, a4⟩
  all_goals
    go_wp2_with fail
    clear m1 m2 m3 m4 d2 d3 d4
    go_loopw [50] (fun i wr => ∃ k : Nat, k ≤ s.T.length ∧ i = .int .i64 k ∧ Hid (∀ j, j < k → (trAt s.T j).g.length ≤ 4 ∧ (trAt s.T j).k.length ≤ 4 ∧ (trAt s.T j).l.length ≤ 6) ∧ Below w.heap.size w wr)
      (fun i _ => s.T.length - (intOf i).toNat)
    case atStart => exact ⟨0, Nat.zero_le _, rfl, Lib.hid (fun i h => by omega), B0.out⟩
    case round =>
      obtain ⟨k, hk, rfl, HA, hB⟩ := hrel
      have BW := Lib.hid hB
      clear hB
      by_cases hlt : k < s.T.length
      · obtain ⟨b, off, rfl, hd⟩ := HTC.out (by omega)
        obtain ⟨vg, vk, vl, e0, e1, e2, hV⟩ := hd k hlt
        replace e0 := keepc e0 BW.out
        replace e1 := keepc e1 BW.out
        replace e2 := keepc e2 BW.out
        obtain ⟨pg, cg, rfl⟩ := ws_len hV.1
        obtain ⟨pk, ck, rfl⟩ := ws_len hV.2.1
        obtain ⟨pl, cl, rfl⟩ := hV.2.2.len
        obtain ⟨t1, t2, t3⟩ := trB_at HF.out k hlt
        have t1 : (trAt s.T k).g.length ≤ 9223372036854775807 := t1
        have t2 : (trAt s.T k).k.length ≤ 9223372036854775807 := t2
        have t3 : (trAt s.T k).l.length ≤ 9223372036854775807 := t3
        have HS1 := Lib.hid (show (trAt s.T k).g.length ≤ 4 ∧ (trAt s.T k).k.length ≤ 4 ∧ (trAt s.T k).l.length ≤ 6 → ∀ j, j < k + 1 → (trAt s.T j).g.length ≤ 4 ∧ (trAt s.T j).k.length ≤ 4 ∧ (trAt s.T j).l.length ≤ 6 from fun e j hj => by
          rcases (show j < k ∨ j = k by omega) with h | rfl
          · exact HA.out j h
          · exact e)
        have hki : (k : Int) < s.T.length := by omega
        clear hd hV
        generalize (trAt s.T k).g.length = lg at *
        generalize (trAt s.T k).k.length = lk at *
        generalize (trAt s.T k).l.length = ll at *
        have B1 := Lib.hid (BW.out.alloc BW.out.size (.cells #[.slice pg lg cg, .slice pk lk ck, .slice pl ll cl] 44))
        by_cases f1 : (4 : Int) < lg
        · go_wp2_with fail
          go_ret
          exact ⟨SomeB.no, B1.out⟩
        have g1 : (lg : Int) ≤ 4 := by omega
        clear f1
        by_cases f2 : (4 : Int) < lk
        · go_wp2_with fail
          go_ret
          exact ⟨SomeB.no, B1.out⟩
        have g2 : (lk : Int) ≤ 4 := by omega
        clear f2
        by_cases f3 : (6 : Int) < ll
        · go_wp2_with fail
          go_ret
          exact ⟨SomeB.no, B1.out⟩
        have g3 : (ll : Int) ≤ 6 := by omega
        clear f3
        have HS2 := Lib.hid (HS1.out (by omega))
        go_wp2_with fail
        go_roundw
        case rel => exact ⟨k + 1, by omega, by go_num, HS2, B1.out⟩
        case measure => simp [intOf]; omega
      · obtain rfl : k = s.T.length := by omega
        go_wp2_with fail
        go_ret
        exact ⟨SomeB.yes ⟨HNW.out, HDD.out.1, HDD.out.2.1, HDD.out.2.2.1, HDD.out.2.2.2, HA.out⟩, BW.out⟩



/-- The example of chapter 17. -/
def awS : SysT := ⟨1, 2, 1, [], [0], [2], [⟨[0], [0], []⟩]⟩
theorem awS_c : stepC awS [[1]] = 0 := by decide +kernel
theorem awS_s : stepE awS [[1]] = [[2]] := by decide +kernel
theorem awS_f : SysF awS := ⟨by decide, by decide, by decide, by decide, fun j hj => by
  have h0 : j = 0 := by have h : j < 1 := hj; omega
  subst h0
  exact ⟨by decide, by decide, by decide⟩⟩
theorem aw_facts (w : World) : SysL ((((((((w.alloc (.cells #[.int .i64 0] 3)).alloc (.cells #[.int .u64 2] 41)).alloc (.cells #[.int .u64 0] 41)).alloc (.cells #[.int .u64 0] 41)).alloc (.cells #[.slice (some ⟨w.heap.size + 1 + 1, 0, none⟩) 1 1, .slice (some ⟨w.heap.size + 1 + 1 + 1, 0, none⟩) 1 1, .slice none 0 0] 44)).alloc (.cells #[.int .i64 1, .int .i64 2, .int .i64 1, .slice none 0 0, .slice (some ⟨w.heap.size, 0, none⟩) 1 1, .slice (some ⟨w.heap.size + 1, 0, none⟩) 1 1, .slice (some ⟨w.heap.size + 1 + 1 + 1 + 1, 0, none⟩) 1 1] 27)).alloc (.cells #[.int .u64 1] 41)).alloc (.cells #[.slice (some ⟨w.heap.size + 1 + 1 + 1 + 1 + 1 + 1, 0, none⟩) 1 1] 24)) (.slice none 0 0) (.slice (some ⟨w.heap.size, 0, none⟩) 1 1) (.slice (some ⟨w.heap.size + 1, 0, none⟩) 1 1) (.slice (some ⟨w.heap.size + 1 + 1 + 1 + 1, 0, none⟩) 1 1) awS ∧ Vals ((((((((w.alloc (.cells #[.int .i64 0] 3)).alloc (.cells #[.int .u64 2] 41)).alloc (.cells #[.int .u64 0] 41)).alloc (.cells #[.int .u64 0] 41)).alloc (.cells #[.slice (some ⟨w.heap.size + 1 + 1, 0, none⟩) 1 1, .slice (some ⟨w.heap.size + 1 + 1 + 1, 0, none⟩) 1 1, .slice none 0 0] 44)).alloc (.cells #[.int .i64 1, .int .i64 2, .int .i64 1, .slice none 0 0, .slice (some ⟨w.heap.size, 0, none⟩) 1 1, .slice (some ⟨w.heap.size + 1, 0, none⟩) 1 1, .slice (some ⟨w.heap.size + 1 + 1 + 1 + 1, 0, none⟩) 1 1] 27)).alloc (.cells #[.int .u64 1] 41)).alloc (.cells #[.slice (some ⟨w.heap.size + 1 + 1 + 1 + 1 + 1 + 1, 0, none⟩) 1 1] 24)) (.slice (some ⟨w.heap.size + 1 + 1 + 1 + 1 + 1 + 1 + 1, 0, none⟩) 1 1) [[1]] ∧ Below w.heap.size w ((((((((w.alloc (.cells #[.int .i64 0] 3)).alloc (.cells #[.int .u64 2] 41)).alloc (.cells #[.int .u64 0] 41)).alloc (.cells #[.int .u64 0] 41)).alloc (.cells #[.slice (some ⟨w.heap.size + 1 + 1, 0, none⟩) 1 1, .slice (some ⟨w.heap.size + 1 + 1 + 1, 0, none⟩) 1 1, .slice none 0 0] 44)).alloc (.cells #[.int .i64 1, .int .i64 2, .int .i64 1, .slice none 0 0, .slice (some ⟨w.heap.size, 0, none⟩) 1 1, .slice (some ⟨w.heap.size + 1, 0, none⟩) 1 1, .slice (some ⟨w.heap.size + 1 + 1 + 1 + 1, 0, none⟩) 1 1] 27)).alloc (.cells #[.int .u64 1] 41)).alloc (.cells #[.slice (some ⟨w.heap.size + 1 + 1 + 1 + 1 + 1 + 1, 0, none⟩) 1 1] 24)) := by
  have k0 : Bk ((((((((w.alloc (.cells #[.int .i64 0] 3)).alloc (.cells #[.int .u64 2] 41)).alloc (.cells #[.int .u64 0] 41)).alloc (.cells #[.int .u64 0] 41)).alloc (.cells #[.slice (some ⟨w.heap.size + 1 + 1, 0, none⟩) 1 1, .slice (some ⟨w.heap.size + 1 + 1 + 1, 0, none⟩) 1 1, .slice none 0 0] 44)).alloc (.cells #[.int .i64 1, .int .i64 2, .int .i64 1, .slice none 0 0, .slice (some ⟨w.heap.size, 0, none⟩) 1 1, .slice (some ⟨w.heap.size + 1, 0, none⟩) 1 1, .slice (some ⟨w.heap.size + 1 + 1 + 1 + 1, 0, none⟩) 1 1] 27)).alloc (.cells #[.int .u64 1] 41)).alloc (.cells #[.slice (some ⟨w.heap.size + 1 + 1 + 1 + 1 + 1 + 1, 0, none⟩) 1 1] 24)) (w.heap.size) 3 [.int .i64 0] := ((((((((Bk.new' w 3 [.int .i64 0] (g := w.heap.size) (by simp)).alloc _).alloc _).alloc _).alloc _).alloc _).alloc _).alloc _)
  have k1 : Bk ((((((((w.alloc (.cells #[.int .i64 0] 3)).alloc (.cells #[.int .u64 2] 41)).alloc (.cells #[.int .u64 0] 41)).alloc (.cells #[.int .u64 0] 41)).alloc (.cells #[.slice (some ⟨w.heap.size + 1 + 1, 0, none⟩) 1 1, .slice (some ⟨w.heap.size + 1 + 1 + 1, 0, none⟩) 1 1, .slice none 0 0] 44)).alloc (.cells #[.int .i64 1, .int .i64 2, .int .i64 1, .slice none 0 0, .slice (some ⟨w.heap.size, 0, none⟩) 1 1, .slice (some ⟨w.heap.size + 1, 0, none⟩) 1 1, .slice (some ⟨w.heap.size + 1 + 1 + 1 + 1, 0, none⟩) 1 1] 27)).alloc (.cells #[.int .u64 1] 41)).alloc (.cells #[.slice (some ⟨w.heap.size + 1 + 1 + 1 + 1 + 1 + 1, 0, none⟩) 1 1] 24)) (w.heap.size + 1) 41 [.int .u64 2] := (((((((Bk.new' (w.alloc (.cells #[.int .i64 0] 3)) 41 [.int .u64 2] (g := w.heap.size + 1) (by simp)).alloc _).alloc _).alloc _).alloc _).alloc _).alloc _)
  have k2 : Bk ((((((((w.alloc (.cells #[.int .i64 0] 3)).alloc (.cells #[.int .u64 2] 41)).alloc (.cells #[.int .u64 0] 41)).alloc (.cells #[.int .u64 0] 41)).alloc (.cells #[.slice (some ⟨w.heap.size + 1 + 1, 0, none⟩) 1 1, .slice (some ⟨w.heap.size + 1 + 1 + 1, 0, none⟩) 1 1, .slice none 0 0] 44)).alloc (.cells #[.int .i64 1, .int .i64 2, .int .i64 1, .slice none 0 0, .slice (some ⟨w.heap.size, 0, none⟩) 1 1, .slice (some ⟨w.heap.size + 1, 0, none⟩) 1 1, .slice (some ⟨w.heap.size + 1 + 1 + 1 + 1, 0, none⟩) 1 1] 27)).alloc (.cells #[.int .u64 1] 41)).alloc (.cells #[.slice (some ⟨w.heap.size + 1 + 1 + 1 + 1 + 1 + 1, 0, none⟩) 1 1] 24)) (w.heap.size + 1 + 1) 41 [.int .u64 0] := ((((((Bk.new' ((w.alloc (.cells #[.int .i64 0] 3)).alloc (.cells #[.int .u64 2] 41)) 41 [.int .u64 0] (g := w.heap.size + 1 + 1) (by simp)).alloc _).alloc _).alloc _).alloc _).alloc _)
  have k3 : Bk ((((((((w.alloc (.cells #[.int .i64 0] 3)).alloc (.cells #[.int .u64 2] 41)).alloc (.cells #[.int .u64 0] 41)).alloc (.cells #[.int .u64 0] 41)).alloc (.cells #[.slice (some ⟨w.heap.size + 1 + 1, 0, none⟩) 1 1, .slice (some ⟨w.heap.size + 1 + 1 + 1, 0, none⟩) 1 1, .slice none 0 0] 44)).alloc (.cells #[.int .i64 1, .int .i64 2, .int .i64 1, .slice none 0 0, .slice (some ⟨w.heap.size, 0, none⟩) 1 1, .slice (some ⟨w.heap.size + 1, 0, none⟩) 1 1, .slice (some ⟨w.heap.size + 1 + 1 + 1 + 1, 0, none⟩) 1 1] 27)).alloc (.cells #[.int .u64 1] 41)).alloc (.cells #[.slice (some ⟨w.heap.size + 1 + 1 + 1 + 1 + 1 + 1, 0, none⟩) 1 1] 24)) (w.heap.size + 1 + 1 + 1) 41 [.int .u64 0] := (((((Bk.new' (((w.alloc (.cells #[.int .i64 0] 3)).alloc (.cells #[.int .u64 2] 41)).alloc (.cells #[.int .u64 0] 41)) 41 [.int .u64 0] (g := w.heap.size + 1 + 1 + 1) (by simp)).alloc _).alloc _).alloc _).alloc _)
  have k4 : Bk ((((((((w.alloc (.cells #[.int .i64 0] 3)).alloc (.cells #[.int .u64 2] 41)).alloc (.cells #[.int .u64 0] 41)).alloc (.cells #[.int .u64 0] 41)).alloc (.cells #[.slice (some ⟨w.heap.size + 1 + 1, 0, none⟩) 1 1, .slice (some ⟨w.heap.size + 1 + 1 + 1, 0, none⟩) 1 1, .slice none 0 0] 44)).alloc (.cells #[.int .i64 1, .int .i64 2, .int .i64 1, .slice none 0 0, .slice (some ⟨w.heap.size, 0, none⟩) 1 1, .slice (some ⟨w.heap.size + 1, 0, none⟩) 1 1, .slice (some ⟨w.heap.size + 1 + 1 + 1 + 1, 0, none⟩) 1 1] 27)).alloc (.cells #[.int .u64 1] 41)).alloc (.cells #[.slice (some ⟨w.heap.size + 1 + 1 + 1 + 1 + 1 + 1, 0, none⟩) 1 1] 24)) (w.heap.size + 1 + 1 + 1 + 1) 44 [.slice (some ⟨w.heap.size + 1 + 1, 0, none⟩) 1 1, .slice (some ⟨w.heap.size + 1 + 1 + 1, 0, none⟩) 1 1, .slice none 0 0] := ((((Bk.new' ((((w.alloc (.cells #[.int .i64 0] 3)).alloc (.cells #[.int .u64 2] 41)).alloc (.cells #[.int .u64 0] 41)).alloc (.cells #[.int .u64 0] 41)) 44 [.slice (some ⟨w.heap.size + 1 + 1, 0, none⟩) 1 1, .slice (some ⟨w.heap.size + 1 + 1 + 1, 0, none⟩) 1 1, .slice none 0 0] (g := w.heap.size + 1 + 1 + 1 + 1) (by simp)).alloc _).alloc _).alloc _)
  have k5 : Bk ((((((((w.alloc (.cells #[.int .i64 0] 3)).alloc (.cells #[.int .u64 2] 41)).alloc (.cells #[.int .u64 0] 41)).alloc (.cells #[.int .u64 0] 41)).alloc (.cells #[.slice (some ⟨w.heap.size + 1 + 1, 0, none⟩) 1 1, .slice (some ⟨w.heap.size + 1 + 1 + 1, 0, none⟩) 1 1, .slice none 0 0] 44)).alloc (.cells #[.int .i64 1, .int .i64 2, .int .i64 1, .slice none 0 0, .slice (some ⟨w.heap.size, 0, none⟩) 1 1, .slice (some ⟨w.heap.size + 1, 0, none⟩) 1 1, .slice (some ⟨w.heap.size + 1 + 1 + 1 + 1, 0, none⟩) 1 1] 27)).alloc (.cells #[.int .u64 1] 41)).alloc (.cells #[.slice (some ⟨w.heap.size + 1 + 1 + 1 + 1 + 1 + 1, 0, none⟩) 1 1] 24)) (w.heap.size + 1 + 1 + 1 + 1 + 1) 27 [.int .i64 1, .int .i64 2, .int .i64 1, .slice none 0 0, .slice (some ⟨w.heap.size, 0, none⟩) 1 1, .slice (some ⟨w.heap.size + 1, 0, none⟩) 1 1, .slice (some ⟨w.heap.size + 1 + 1 + 1 + 1, 0, none⟩) 1 1] := (((Bk.new' (((((w.alloc (.cells #[.int .i64 0] 3)).alloc (.cells #[.int .u64 2] 41)).alloc (.cells #[.int .u64 0] 41)).alloc (.cells #[.int .u64 0] 41)).alloc (.cells #[.slice (some ⟨w.heap.size + 1 + 1, 0, none⟩) 1 1, .slice (some ⟨w.heap.size + 1 + 1 + 1, 0, none⟩) 1 1, .slice none 0 0] 44)) 27 [.int .i64 1, .int .i64 2, .int .i64 1, .slice none 0 0, .slice (some ⟨w.heap.size, 0, none⟩) 1 1, .slice (some ⟨w.heap.size + 1, 0, none⟩) 1 1, .slice (some ⟨w.heap.size + 1 + 1 + 1 + 1, 0, none⟩) 1 1] (g := w.heap.size + 1 + 1 + 1 + 1 + 1) (by simp)).alloc _).alloc _)
  have k6 : Bk ((((((((w.alloc (.cells #[.int .i64 0] 3)).alloc (.cells #[.int .u64 2] 41)).alloc (.cells #[.int .u64 0] 41)).alloc (.cells #[.int .u64 0] 41)).alloc (.cells #[.slice (some ⟨w.heap.size + 1 + 1, 0, none⟩) 1 1, .slice (some ⟨w.heap.size + 1 + 1 + 1, 0, none⟩) 1 1, .slice none 0 0] 44)).alloc (.cells #[.int .i64 1, .int .i64 2, .int .i64 1, .slice none 0 0, .slice (some ⟨w.heap.size, 0, none⟩) 1 1, .slice (some ⟨w.heap.size + 1, 0, none⟩) 1 1, .slice (some ⟨w.heap.size + 1 + 1 + 1 + 1, 0, none⟩) 1 1] 27)).alloc (.cells #[.int .u64 1] 41)).alloc (.cells #[.slice (some ⟨w.heap.size + 1 + 1 + 1 + 1 + 1 + 1, 0, none⟩) 1 1] 24)) (w.heap.size + 1 + 1 + 1 + 1 + 1 + 1) 41 [.int .u64 1] := ((Bk.new' ((((((w.alloc (.cells #[.int .i64 0] 3)).alloc (.cells #[.int .u64 2] 41)).alloc (.cells #[.int .u64 0] 41)).alloc (.cells #[.int .u64 0] 41)).alloc (.cells #[.slice (some ⟨w.heap.size + 1 + 1, 0, none⟩) 1 1, .slice (some ⟨w.heap.size + 1 + 1 + 1, 0, none⟩) 1 1, .slice none 0 0] 44)).alloc (.cells #[.int .i64 1, .int .i64 2, .int .i64 1, .slice none 0 0, .slice (some ⟨w.heap.size, 0, none⟩) 1 1, .slice (some ⟨w.heap.size + 1, 0, none⟩) 1 1, .slice (some ⟨w.heap.size + 1 + 1 + 1 + 1, 0, none⟩) 1 1] 27)) 41 [.int .u64 1] (g := w.heap.size + 1 + 1 + 1 + 1 + 1 + 1) (by simp)).alloc _)
  have k7 : Bk ((((((((w.alloc (.cells #[.int .i64 0] 3)).alloc (.cells #[.int .u64 2] 41)).alloc (.cells #[.int .u64 0] 41)).alloc (.cells #[.int .u64 0] 41)).alloc (.cells #[.slice (some ⟨w.heap.size + 1 + 1, 0, none⟩) 1 1, .slice (some ⟨w.heap.size + 1 + 1 + 1, 0, none⟩) 1 1, .slice none 0 0] 44)).alloc (.cells #[.int .i64 1, .int .i64 2, .int .i64 1, .slice none 0 0, .slice (some ⟨w.heap.size, 0, none⟩) 1 1, .slice (some ⟨w.heap.size + 1, 0, none⟩) 1 1, .slice (some ⟨w.heap.size + 1 + 1 + 1 + 1, 0, none⟩) 1 1] 27)).alloc (.cells #[.int .u64 1] 41)).alloc (.cells #[.slice (some ⟨w.heap.size + 1 + 1 + 1 + 1 + 1 + 1, 0, none⟩) 1 1] 24)) (w.heap.size + 1 + 1 + 1 + 1 + 1 + 1 + 1) 24 [.slice (some ⟨w.heap.size + 1 + 1 + 1 + 1 + 1 + 1, 0, none⟩) 1 1] := (Bk.new' (((((((w.alloc (.cells #[.int .i64 0] 3)).alloc (.cells #[.int .u64 2] 41)).alloc (.cells #[.int .u64 0] 41)).alloc (.cells #[.int .u64 0] 41)).alloc (.cells #[.slice (some ⟨w.heap.size + 1 + 1, 0, none⟩) 1 1, .slice (some ⟨w.heap.size + 1 + 1 + 1, 0, none⟩) 1 1, .slice none 0 0] 44)).alloc (.cells #[.int .i64 1, .int .i64 2, .int .i64 1, .slice none 0 0, .slice (some ⟨w.heap.size, 0, none⟩) 1 1, .slice (some ⟨w.heap.size + 1, 0, none⟩) 1 1, .slice (some ⟨w.heap.size + 1 + 1 + 1 + 1, 0, none⟩) 1 1] 27)).alloc (.cells #[.int .u64 1] 41)) 24 [.slice (some ⟨w.heap.size + 1 + 1 + 1 + 1 + 1 + 1, 0, none⟩) 1 1] (g := w.heap.size + 1 + 1 + 1 + 1 + 1 + 1 + 1) (by simp))
  have one : ∀ (g z : Nat), z < 18446744073709551616 → Bk ((((((((w.alloc (.cells #[.int .i64 0] 3)).alloc (.cells #[.int .u64 2] 41)).alloc (.cells #[.int .u64 0] 41)).alloc (.cells #[.int .u64 0] 41)).alloc (.cells #[.slice (some ⟨w.heap.size + 1 + 1, 0, none⟩) 1 1, .slice (some ⟨w.heap.size + 1 + 1 + 1, 0, none⟩) 1 1, .slice none 0 0] 44)).alloc (.cells #[.int .i64 1, .int .i64 2, .int .i64 1, .slice none 0 0, .slice (some ⟨w.heap.size, 0, none⟩) 1 1, .slice (some ⟨w.heap.size + 1, 0, none⟩) 1 1, .slice (some ⟨w.heap.size + 1 + 1 + 1 + 1, 0, none⟩) 1 1] 27)).alloc (.cells #[.int .u64 1] 41)).alloc (.cells #[.slice (some ⟨w.heap.size + 1 + 1 + 1 + 1 + 1 + 1, 0, none⟩) 1 1] 24)) g 41 [.int .u64 (z : Nat)] → Ws ((((((((w.alloc (.cells #[.int .i64 0] 3)).alloc (.cells #[.int .u64 2] 41)).alloc (.cells #[.int .u64 0] 41)).alloc (.cells #[.int .u64 0] 41)).alloc (.cells #[.slice (some ⟨w.heap.size + 1 + 1, 0, none⟩) 1 1, .slice (some ⟨w.heap.size + 1 + 1 + 1, 0, none⟩) 1 1, .slice none 0 0] 44)).alloc (.cells #[.int .i64 1, .int .i64 2, .int .i64 1, .slice none 0 0, .slice (some ⟨w.heap.size, 0, none⟩) 1 1, .slice (some ⟨w.heap.size + 1, 0, none⟩) 1 1, .slice (some ⟨w.heap.size + 1 + 1 + 1 + 1, 0, none⟩) 1 1] 27)).alloc (.cells #[.int .u64 1] 41)).alloc (.cells #[.slice (some ⟨w.heap.size + 1 + 1 + 1 + 1 + 1 + 1, 0, none⟩) 1 1] 24)) (.slice (some ⟨g, 0, none⟩) 1 1) [z] := fun g z hz h =>
    Bk.ws (a := [z]) h rfl (by intro y hy; rw [List.mem_singleton.1 hy]; exact hz)
  refine ⟨⟨⟨none, 0, rfl, by simp [awS]⟩, ⟨_, _, rfl, fun _ => ⟨_, 0, rfl, fun j hj => ?_⟩⟩, one _ 2 (by decide) k1, ⟨_, _, rfl, fun _ => ⟨_, 0, rfl, fun j hj => ?_⟩⟩⟩, ⟨_, _, rfl, fun _ => ⟨_, 0, rfl, fun j hj => ?_⟩⟩, ?_⟩
  · have h0 : j = 0 := by have h : j < 1 := hj; omega
    subst h0
    exact k0.cell 0
  · have h0 : j = 0 := by have h : j < 1 := hj; omega
    subst h0
    exact ⟨_, _, _, k4.cell 0, k4.cell 1, k4.cell 2, one _ 0 (by decide) k2, one _ 0 (by decide) k3, ⟨none, 0, rfl, by simp [trAt, awS]⟩⟩
  · have h0 : j = 0 := by have h : j < 1 := hj; omega
    subst h0
    exact ⟨_, k7.cell 0, one _ 1 (by decide) k6⟩
  · exact ((((((((Below.refl w.heap.size w).alloc (Nat.le_refl _) _).alloc (by simp <;> omega) _).alloc (by simp <;> omega) _).alloc (by simp <;> omega) _).alloc (by simp <;> omega) _).alloc (by simp <;> omega) _).alloc (by simp <;> omega) _).alloc (by simp <;> omega) _



end Go.Proofs.Ytfeipfemknnhhaa

namespace Go.Proofs.Ytfeipfemknnhhaa
open Go.RowKit Go.ChangeShapes Go.WideShapes

set_option maxRecDepth 100000 in
theorem vals_in {H : Type} {enc : TypeId × Value → H} {w : World} {base : Nat} {spare : Nat → Bool} {held : Bool} {fuel : Nat} {o : Option Addr} {n c : Nat} {x : DataW H × List MemPlace}
    (h : DataW.trod enc Try.prog w base spare held fuel 34 [.slice o n c] = some x) : ∃ L, Vals w (.slice o n c) L ∧ L.length ≤ maxLen ∧ ValsB maxLen L := by
  rcases Go.Deep.open_slice Try.underlying34 h with h | ⟨a, len, cap, m, k, D, Pl, hcs, hb, hl, hm, hmm, hx, hi⟩
  · have h := h.1
    simp only [List.cons.injEq, Value.slice.injEq, and_true] at h
    obtain ⟨rfl, rfl, rfl⟩ := h
    exact ⟨[], ⟨none, 0, rfl, by simp⟩, by simp, fun j hj => by simp at hj⟩
  · simp only [List.cons.injEq, Value.slice.injEq, and_true] at hcs
    obtain ⟨rfl, rfl, rfl⟩ := hcs
    have hC : Try.prog.cellsOf 24 = 1 := by kernel_rfl
    have hx : ∀ i, ∃ t : List Nat, t.length ≤ maxLen ∧ (i < n → a.spot = none ∧ ∃ u, w.cell? ⟨a.block, a.off + i, none⟩ = some u ∧ Ws w u t) := fun i => by
      by_cases hlt : i < n
      · have hn : n ≤ m := by rw [hmm]; split <;> omega
        have hsp : a.spot = none := by
          obtain ⟨cs', hc, ht'⟩ := hi 0 (by omega)
          rw [hC] at hc
          obtain ⟨_, hcl, hat⟩ := World.cells?_some hc
          have hfirst := hat 0 (by omega)
          rw [List.getElem?_eq_getElem (by omega)] at hfirst
          have := spot_of hfirst
          simpa [Addr.add] using this
        obtain ⟨cs', hc, ht'⟩ := hi i (by omega)
        rw [hC] at hc
        obtain ⟨_, hcl, hat⟩ := World.cells?_some hc
        obtain ⟨u, rfl⟩ := list1 hcl
        obtain ⟨L, hL, hLm⟩ := words_in ht'
        have hfirst := hat 0 (by omega)
        rw [Go.Deep.add_add, add_plain _ _ hsp] at hfirst
        exact ⟨L, hLm, fun _ => ⟨hsp, u, by simpa using hfirst, hL⟩⟩
      · exact ⟨[], by simp, fun h => absurd h hlt⟩
    refine ⟨(List.range n).map fun i => (hx i).choose, ⟨some a, c, by simp, fun h0 => ?_⟩, by simp; omega, fun j hj => ?_⟩
    · have hsp : a.spot = none := ((hx 0).choose_spec.2 (by simpa using h0)).1
      refine ⟨a.block, a.off, by cases a; simp at hsp; subst hsp; rfl, fun j hj => ?_⟩
      have hj' : j < n := by simpa using hj
      have e : lsAt ((List.range n).map fun i => (hx i).choose) j = (hx j).choose := by
        unfold lsAt
        rw [List.getElem?_map, List.getElem?_range hj']
        rfl
      rw [e]
      exact ((hx j).choose_spec.2 hj').2
    · have hj' : j < n := by simpa using hj
      have e : lsAt ((List.range n).map fun i => (hx i).choose) j = (hx j).choose := by
        unfold lsAt
        rw [List.getElem?_map, List.getElem?_range hj']
        rfl
      rw [e]
      exact (hx j).choose_spec.1

end Go.Proofs.Ytfeipfemknnhhaa
