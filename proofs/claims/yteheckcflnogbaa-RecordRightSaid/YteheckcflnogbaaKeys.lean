/-
  A map whose keys are ints, as the list of what was put into it; its keys, sorted. Plain mathematics.
-/
import Derived.Maps.Views
import Derived.Lib.SlKeysI
import Derived.Maps.Own
namespace Go.Proofs.Yteheckcflnogbaa
open Go.Maps

def isI : Lit → Bool
  | .int .i64 _ => true
  | _ => false
theorem isI_iff {l : Lit} : isI l = true → ∃ x, l = .int .i64 x := by
  intro h
  unfold isI at h
  split at h
  · exact ⟨_, rfl⟩
  · cases h
/-- The map's keys are just these numbers. -/
structure KeysOf {H : Type} (D : DataW H) (xs : List Int) : Prop where
  tidy : Tidy D
  has : ∀ z, Maps.has D (.int .i64 z) = decide (z ∈ xs)
  size : Maps.size D ≤ xs.length
  ints : ∃ es, D = .map es ∧ es.any (fun p => !isI p.1) = false
theorem KeysOf.empty {H : Type} : KeysOf (.map [] : DataW H) [] := ⟨tidy_empty, fun z => by simp [Maps.has], by simp [Maps.size], [], rfl, rfl⟩
theorem KeysOf.put {H : Type} {D : DataW H} {xs : List Int} (h : KeysOf D xs) (x : Int) (d : DataW H) : KeysOf (D.put (.int .i64 x) d) (xs ++ [x]) := by
  obtain ⟨h1, h2, h3, es, rfl, h4⟩ := h
  refine ⟨h1.put (by trivial) d, fun z => ?_, ?_, ?_⟩
  · by_cases hz : z = x
    · subst hz
      rw [has_put_same h1.isMap (by trivial)]
      simp
    · rw [has_put_other (by intro e; injection e with _ e; exact hz e), h2]
      simp [hz]
  · rw [size_put h1, List.length_append, List.length_singleton]
    split <;> omega
  · refine ⟨_, rfl, ?_⟩
    rw [any_insert]
    simp only [isI, Bool.not_true, Bool.false_or]
    rw [List.any_eq_false] at h4 ⊢
    intro p hp
    exact h4 p (List.mem_filter.1 hp).1
/-- Numbers, each below the next ones. -/
def Rising (zs : List Int) : Prop := zs.Pairwise (· < ·)
theorem KeysOf.sorted {H : Type} {D : DataW H} {xs ss : List Int} (h : KeysOf D xs) (hp : ss.Perm (intKeys D)) :
    Rising (ss.mergeSort (fun x y => decide (x ≤ y))) ∧ (∀ x ∈ xs, x ∈ ss.mergeSort (fun x y => decide (x ≤ y))) ∧ (ss.mergeSort (fun x y => decide (x ≤ y))).length ≤ xs.length := by
  obtain ⟨⟨es', e, hpw⟩, h2, h3, es, rfl, h4⟩ := h
  injection e with e
  subst e
  have hk : ∀ p ∈ es, ∃ x, p.1 = .int .i64 x := fun p hp => by
    rw [List.any_eq_false] at h4
    exact isI_iff (by simpa using h4 p hp)
  have hnd : (intKeys (.map es : DataW H)).Nodup := by
    refine List.pairwise_map.2 (hpw.imp_of_mem fun {p q} hp' hq' hne e => hne ?_)
    obtain ⟨a, ha⟩ := hk p hp'
    obtain ⟨b, hb⟩ := hk q hq'
    rw [ha, hb] at e ⊢
    exact congrArg _ e
  have hmem : ∀ x, x ∈ intKeys (.map es : DataW H) ↔ Maps.has (.map es : DataW H) (.int .i64 x) = true := fun x => by
    rw [has_eq, List.any_eq_true]
    show x ∈ es.map (fun p => intOf p.1) ↔ _
    rw [List.mem_map]
    constructor
    · rintro ⟨p, hp', rfl⟩
      obtain ⟨a, ha⟩ := hk p hp'
      exact ⟨p, hp', by rw [ha]; simp [Lit.sameKey, intOf]⟩
    · rintro ⟨p, hp', hs⟩
      obtain ⟨a, ha⟩ := hk p hp'
      rw [ha] at hs
      exact ⟨p, hp', by rw [ha]; simpa [Lit.sameKey, intOf] using hs⟩
  have tr : ∀ a b c : Int, decide (a ≤ b) = true → decide (b ≤ c) = true → decide (a ≤ c) = true := fun a b c h1 h2 => by simp only [decide_eq_true_eq] at *; omega
  have to : ∀ a b : Int, (decide (a ≤ b) || decide (b ≤ a)) = true := fun a b => by simp only [Bool.or_eq_true, decide_eq_true_eq]; omega
  have hms := List.mergeSort_perm ss (fun x y => decide (x ≤ y))
  have hpw := List.pairwise_mergeSort tr to ss
  have hnz : (ss.mergeSort (fun x y => decide (x ≤ y))).Nodup := (hms.trans hp).nodup_iff.2 hnd
  refine ⟨?_, fun x hx => ?_, ?_⟩
  · refine (hpw.and hnz).imp ?_
    rintro a b ⟨h, hne⟩
    simp only [decide_eq_true_eq] at h
    exact Int.lt_iff_le_and_ne.2 ⟨h, hne⟩
  · rw [(hms.trans hp).mem_iff, hmem, h2]
    simpa using hx
  · rw [(hms.trans hp).length_eq]
    show (es.map fun p => intOf p.1).length ≤ _
    rw [List.length_map]
    exact h3
theorem Rising.at {zs : List Int} (h : Rising zs) {i : Nat} (h0 : 0 < i) (hi : i < zs.length) : zs[i - 1]?.getD 0 < zs[i]?.getD 0 := by
  have := List.pairwise_iff_getElem.1 h (i - 1) i (by omega) hi (by omega)
  rw [List.getElem?_eq_getElem (by omega), List.getElem?_eq_getElem hi]
  exact this

end Go.Proofs.Yteheckcflnogbaa
