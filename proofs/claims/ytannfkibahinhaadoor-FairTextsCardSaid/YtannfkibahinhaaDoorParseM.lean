/-
  Texts of scripts: how they go on. No program.
-/
import Derived.Test.YtannfkibahinhaaDoorFairT
import Derived.Test.YtannfkibahinhaaDoorNumM
namespace Go.Proofs.YtannfkibahinhaaDoor
open Go.RowKit

def I64s (L : List (Int × Int)) : Prop := ∀ j, I64 (pickAt L j).1 ∧ I64 (pickAt L j).2
def textS (L : List (Int × Int)) : List UInt8 := textK L L.length
def preT (L : List (Int × Int)) : List UInt8 := if L = [] then [] else textS L ++ [32]
theorem pickAt_app (L M : List (Int × Int)) (j : Nat) (h : j < L.length) : pickAt (L ++ M) j = pickAt L j := by
  unfold pickAt; rw [List.getElem?_append_left h]
theorem textK_app (L M : List (Int × Int)) (k : Nat) (h : k ≤ L.length) : textK (L ++ M) k = textK L k := by
  induction k with
  | zero => rfl
  | succ k ih => rw [textK, textK, ih (by omega), pickAt_app L M k (by omega)]
theorem textS_snoc (L : List (Int × Int)) (p : Int × Int) : textS (L ++ [p]) = preT L ++ ptext p := by
  unfold textS preT textS
  rw [List.length_append]
  show textK (L ++ [p]) (L.length + 1) = _
  rw [textK, textK_app L [p] _ (Nat.le_refl _)]
  have : pickAt (L ++ [p]) L.length = p := by unfold pickAt; simp
  rw [this]
  by_cases h : L = []
  · subst h; rfl
  · have : ¬ L.length = 0 := fun h' => h (List.eq_nil_of_length_eq_zero h')
    rw [if_neg h, if_neg this]
theorem snoc_of {α : Type _} (M : List α) (h : M ≠ []) : ∃ M' x, M = M' ++ [x] := by
  rcases List.eq_nil_or_concat M with h' | ⟨M', x, h'⟩
  · exact absurd h' h
  · exact ⟨M', x, by rw [h', List.concat_eq_append]⟩
/-- A longer script's text: what comes behind a pick. -/
theorem textS_split (L : List (Int × Int)) (m : Int × Int) (n : Nat) : ∀ M : List (Int × Int), M.length = n → ∃ tail, textS (L ++ m :: M) = preT L ++ (ptext m ++ tail) ∧ ((M = [] ∧ tail = []) ∨ (M ≠ [] ∧ ∃ t, tail = 32 :: t)) := by
  induction n with
  | zero =>
    intro M hM
    obtain rfl := List.eq_nil_of_length_eq_zero hM
    exact ⟨[], by rw [textS_snoc, List.append_nil], .inl ⟨rfl, rfl⟩⟩
  | succ n ih =>
    intro M hM
    obtain ⟨M', x, rfl⟩ := snoc_of M (by rintro rfl; simp at hM)
    obtain ⟨tail, h1, h2⟩ := ih M' (by simpa using hM)
    have e : L ++ m :: (M' ++ [x]) = (L ++ m :: M') ++ [x] := by simp
    rw [e, textS_snoc, preT, if_neg (by simp), h1]
    refine ⟨tail ++ [32] ++ ptext x, by simp, .inr ⟨by simp, ?_⟩⟩
    rcases h2 with ⟨_, rfl⟩ | ⟨_, t, rfl⟩
    · exact ⟨ptext x, rfl⟩
    · exact ⟨t ++ [32] ++ ptext x, by simp⟩
theorem ptext_ne (p : Int × Int) : ptext p ≠ [] := by
  unfold ptext cat; simp
theorem textS_ne (L : List (Int × Int)) (h : L ≠ []) : textS L ≠ [] := by
  obtain ⟨M, x, rfl⟩ := snoc_of L h
  rw [textS_snoc]
  have := ptext_ne x
  simp [this]
theorem i64s_snoc {L : List (Int × Int)} {a b : Int} (h : I64s L) (ha : I64 a) (hb : I64 b) : I64s (L ++ [(a, b)]) := by
  intro j
  rcases Nat.lt_trichotomy j L.length with h1 | h1 | h1
  · rw [pickAt_app _ _ _ h1]; exact h j
  · subst h1
    have : pickAt (L ++ [(a, b)]) L.length = (a, b) := by unfold pickAt; simp
    rw [this]; exact ⟨ha, hb⟩
  · have : pickAt (L ++ [(a, b)]) j = (0, 0) := by unfold pickAt; rw [List.getElem?_eq_none (by simp; omega)]; rfl
    rw [this]; constructor <;> simp [I64]
theorem i64s_nil : I64s [] := fun j => by unfold pickAt; constructor <;> simp [I64]
theorem i64s_at {L M : List (Int × Int)} {m : Int × Int} (h : I64s (L ++ m :: M)) : I64 m.1 ∧ I64 m.2 := by
  have := h L.length
  have e : pickAt (L ++ m :: M) L.length = m := by unfold pickAt; simp
  rwa [e] at this
/-- A script that has this text begins so, and goes on. -/
theorem goes_on {s : List UInt8} {L M : List (Int × Int)} {rest : List UInt8} (hs : s = preT L ++ rest) (hne : s ≠ []) (hM : textS M = s) (hp : L <+: M) :
    ∃ m M' tail, M = L ++ m :: M' ∧ rest = Lib.itoa m.1 ++ 58 :: (Lib.itoa m.2 ++ tail) ∧ ((M' = [] ∧ tail = []) ∨ (M' ≠ [] ∧ ∃ t, tail = 32 :: t)) := by
  obtain ⟨R, rfl⟩ := hp
  match R with
  | [] =>
    exfalso
    rw [List.append_nil] at hM
    by_cases h : L = []
    · subst h
      exact hne hM.symm
    · rw [hs, preT, if_neg h] at hM
      have := congrArg List.length hM
      simp at this
  | m :: M' =>
    obtain ⟨tail, h1, h2⟩ := textS_split L m M'.length M' rfl
    refine ⟨m, M', tail, rfl, ?_, h2⟩
    rw [hM, hs] at h1
    have := List.append_cancel_left h1
    rw [this]
    simp [ptext, cat]
theorem noD_cons {c : UInt8} {r : List UInt8} (h : isD c = false) : noD (c :: r) := fun d hd => by
  simp at hd
  subst hd
  exact h
theorem noD_tail {M' : List (Int × Int)} {tail : List UInt8} (h : (M' = [] ∧ tail = []) ∨ (M' ≠ [] ∧ ∃ t, tail = 32 :: t)) : noD tail := by
  rcases h with ⟨_, rfl⟩ | ⟨_, t, rfl⟩
  · intro d hd; simp at hd
  · exact noD_cons (by decide)
theorem take_itoa (n : Int) (r : List UInt8) (h : noD r) : (Lib.itoa n ++ r).take (nlen (Lib.itoa n ++ r)) = Lib.itoa n := by
  rw [nlen_itoa n r h, List.take_left]
theorem itoa_inj64 {a b : Int} (ha : I64 a) (hb : I64 b) (h : Lib.itoa a = Lib.itoa b) : a = b := by
  have h1 := atoi_itoa a ha
  rw [h, atoi_itoa b hb] at h1
  injection h1 with h1
  exact h1.symm

/-- The first number isn't one: no script. -/
theorem none1 {s rest : List UInt8} {L : List (Int × Int)} (hs : s = preT L ++ rest) (hne : s ≠ []) (hpre : ∀ M, I64s M → textS M = s → L <+: M)
    (hb : ∀ v, I64 v → Lib.itoa v ≠ rest.take (nlen rest)) : ∀ M, I64s M → textS M ≠ s := by
  intro M hM h
  obtain ⟨m, M', tail, rfl, hr, ht⟩ := goes_on hs hne h (hpre M hM h)
  have hm := i64s_at hM
  refine hb m.1 hm.1 ?_
  rw [hr, take_itoa _ _ (noD_cons (by decide))]
/-- Behind the first number there is no colon: no script. -/
theorem none2 {s rest : List UInt8} {L : List (Int × Int)} (hs : s = preT L ++ rest) (hne : s ≠ []) (hpre : ∀ M, I64s M → textS M = s → L <+: M)
    (hb : (rest.drop (nlen rest)).head? ≠ some 58) : ∀ M, I64s M → textS M ≠ s := by
  intro M hM h
  obtain ⟨m, M', tail, rfl, hr, ht⟩ := goes_on hs hne h (hpre M hM h)
  apply hb
  rw [hr, nlen_itoa _ _ (noD_cons (by decide)), List.drop_left]
  rfl
/-- The second number isn't one. -/
theorem none3 {s rest r2 : List UInt8} {L : List (Int × Int)} (hs : s = preT L ++ rest) (hne : s ≠ []) (hpre : ∀ M, I64s M → textS M = s → L <+: M)
    (h2 : rest.drop (nlen rest) = 58 :: r2) (hb : ∀ v, I64 v → Lib.itoa v ≠ r2.take (nlen r2)) : ∀ M, I64s M → textS M ≠ s := by
  intro M hM h
  obtain ⟨m, M', tail, rfl, hr, ht⟩ := goes_on hs hne h (hpre M hM h)
  have hm := i64s_at hM
  rw [hr, nlen_itoa _ _ (noD_cons (by decide)), List.drop_left] at h2
  injection h2 with _ h2
  refine hb m.2 hm.2 ?_
  rw [← h2, take_itoa _ _ (noD_tail ht)]
/-- Both are: whatever script has this text goes on with that pick. -/
theorem next {s rest r2 : List UInt8} {L : List (Int × Int)} {a b : Int} (hs : s = preT L ++ rest) (hne : s ≠ []) (hpre : ∀ M, I64s M → textS M = s → L <+: M)
    (h1 : Lib.itoa a = rest.take (nlen rest)) (ha : I64 a) (h2 : rest.drop (nlen rest) = 58 :: r2) (h3 : Lib.itoa b = r2.take (nlen r2)) (hb : I64 b) :
    (s = textS (L ++ [(a, b)]) ++ r2.drop (nlen r2)) ∧ ∀ M, I64s M → textS M = s → ∃ M' tail, M = (L ++ [(a, b)]) ++ M' ∧ r2.drop (nlen r2) = tail ∧ ((M' = [] ∧ tail = []) ∨ (M' ≠ [] ∧ ∃ t, tail = 32 :: t)) := by
  constructor
  · rw [textS_snoc, hs]
    have e1 := List.take_append_drop (nlen rest) rest
    have e2 := List.take_append_drop (nlen r2) r2
    rw [← h1, h2] at e1
    rw [← h3] at e2
    rw [← e1]
    show _ = preT L ++ (cat (cat (Lib.itoa a) [58]) (Lib.itoa b)) ++ _
    simp only [cat, List.append_assoc, List.cons_append, List.nil_append]
    rw [e2]
  · intro M hM h
    obtain ⟨m, M', tail, rfl, hr, ht⟩ := goes_on hs hne h (hpre M hM h)
    have hm := i64s_at hM
    have ea : a = m.1 := itoa_inj64 ha hm.1 (by rw [h1, hr, take_itoa _ _ (noD_cons (by decide))])
    rw [hr, nlen_itoa _ _ (noD_cons (by decide)), List.drop_left] at h2
    injection h2 with _ h2
    have eb : b = m.2 := itoa_inj64 hb hm.2 (by rw [h3, ← h2, take_itoa _ _ (noD_tail ht)])
    refine ⟨M', tail, by rw [ea, eb]; simp, ?_, ht⟩
    rw [← h2, nlen_itoa _ _ (noD_tail ht), List.drop_left]
end Go.Proofs.YtannfkibahinhaaDoor
