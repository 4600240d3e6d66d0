/-
  One Trans behind another one: what it makes is what one makes of what the other one made: mathematics. No program.
-/
import Derived.Test.YtflkelnfdoihlaaTrM
import Derived.Test.YtflkelnfdoihlaaTrU
namespace Go.Proofs.Ytflkelnfdoihlaa
open Go.RowKit

theorem sou_ne {x : Int} (h : x ≠ 0) : sou x ≠ 0 := by
  unfold sou
  split
  · exact h
  · decide
theorem rr_ne {op x y : Int} (hx : x ≠ 0) (hy : y ≠ 0) : rr op x y ≠ 0 := by
  unfold rr
  rw [if_neg (by omega)]
  split
  · decide
  · split
    · have := word_bd (gop op (numv x).1 (numv x).2 (numv y).1 (numv y).2).1 (gop op (numv x).1 (numv x).2 (numv y).1 (numv y).2).2
      omega
    · decide
theorem cop_ne {op a b : Int} (ha : a ≠ 0) (hb : b ≠ 0) : cop op a b ≠ 0 := by
  rw [cop_rr]
  refine rr_ne (sou_ne ha) ?_
  split
  · decide
  · exact sou_ne hb
/-- No word is 0. -/
def NZ (a : List Nat) : Prop := ∀ i, i < a.length → wAt a i ≠ 0
theorem wordR_ne {a : List Nat} (h : NZ a) {v re im : Int} (hv : refIn a.length v) : wordR a v re im ≠ 0 := by
  unfold wordR
  split
  · have := word_bd re im; omega
  · rcases hv with hv | hv
    · contradiction
    · exact h v.toNat (by omega)
theorem step_ne {a : List Nat} (h : NZ a) {c : CodeT} (hc : codeIn a.length c) : NZ (codeStep a c) := fun i hi => by
  rw [codeStep_len] at hi
  unfold codeStep
  rw [wAt_set]
  split
  · split
    · decide
    · next h1 =>
      obtain ⟨_, _, _, h2⟩ := hc
      rcases h2 with h2 | ⟨h2, h3⟩
      · contradiction
      · have e1 := wordR_ne h (re := c.ar) (im := c.ai) h2
        have e2 := wordR_ne h (re := c.br) (im := c.bi) h3
        have := cop_ne (op := c.o) (a := (wordR a c.av c.ar c.ai : Nat)) (b := (wordR a c.bv c.br c.bi : Nat)) (by omega) (by omega)
        have := cop_lt c.o (wordR a c.av c.ar c.ai) (wordR a c.bv c.br c.bi)
        omega
  · exact h i hi
theorem fold_len : ∀ (L : List CodeT) (a : List Nat), (L.foldl codeStep a).length = a.length
  | [], _ => rfl
  | c :: L, a => by rw [List.foldl_cons, fold_len L, codeStep_len]
theorem fold_ne : ∀ (L : List CodeT) {a : List Nat}, NZ a → (∀ c ∈ L, codeIn a.length c) → NZ (L.foldl codeStep a)
  | [], _, h, _ => h
  | c :: L, a, h, hc => by
    rw [List.foldl_cons]
    exact fold_ne L (step_ne h (hc c (by simp))) fun d hd => by rw [codeStep_len]; exact hc d (by simp [hd])
theorem doK_fold (a : List Nat) (L : List CodeT) : doK a L L.length = L.foldl codeStep a := by unfold doK; rw [List.take_length]
theorem nz_of {a : List Nat} (h : a.any (fun z => z == 0) = false) : NZ a := fun i hi e => by
  have := any_one i hi e
  rw [h] at this; cases this
theorem ct_all {width : Int} {g k : List Nat} {L : List CodeT} (h : checkT 3 width g k L = 0) : isL 3 width = true ∧ L.all (codeE width) = true := by
  unfold checkT at h
  split at h
  · next hL =>
    (try rw [if_pos rfl] at h)
    split at h
    · next hh => exact ⟨hL, hh.2.2⟩
    · omega
  · omega
section
variable {width : Int} {g k g2 k2 g3 k3 a : List Nat} {L L2 : List CodeT}
theorem then_flat (hc : checkT 3 width g k L = 0) (va : valueE 3 width a = true) : applyE 3 width g2 k2 L2 (applyE 3 width g k L a) = applyE 3 width g3 k3 (L ++ L2) a := by
  obtain ⟨hL, hall⟩ := ct_all hc
  have hlen := flat_len va
  cases hz : a.any (fun z => z == 0) with
  | true =>
    have e1 : ∀ (g k : List Nat) (M : List CodeT), applyE 3 width g k M a = bottomE 3 width := fun g k M => by unfold applyE; rw [if_pos rfl, hz, if_pos rfl]
    rw [e1, e1]
    obtain ⟨z, hm, _⟩ := List.any_eq_true.1 hz
    have h0 : 0 < a.length := List.length_pos_of_mem hm
    have hb : (bottomE 3 width).any (fun z => z == 0) = true := by
      refine any_one 0 (by rw [bottom_len, ← value_len va]; exact h0) ?_
      unfold bottomE
      rw [if_neg (by omega)]
      unfold wAt
      rw [List.getElem?_replicate, if_pos (by rw [← value_len va]; exact h0)]
      rfl
    unfold applyE
    rw [if_pos rfl, hb, if_pos rfl]
  | false =>
    have e1 : ∀ (g k : List Nat) (M : List CodeT), applyE 3 width g k M a = M.foldl codeStep a := fun g k M => by unfold applyE; rw [if_pos rfl, hz, if_neg (by decide), doK_fold]
    rw [e1, e1, List.foldl_append]
    have hn : NZ (L.foldl codeStep a) := fold_ne L (nz_of hz) fun c hcm => by
      rw [hlen]; exact code_in (List.all_eq_true.1 hall c hcm)
    have hz2 := any_zero hn
    unfold applyE
    rw [if_pos rfl, hz2, if_neg (by decide), doK_fold]
end
section
variable {what width : Int} {g k g2 k2 a : List Nat} {L L2 : List CodeT} (hg : ∀ z ∈ g, z < 18446744073709551616) (hk : ∀ z ∈ k, z < 18446744073709551616) (hg2 : ∀ z ∈ g2, z < 18446744073709551616) (hk2 : ∀ z ∈ k2, z < 18446744073709551616) (ha : ∀ z ∈ a, z < 18446744073709551616)
include hg hk hg2 hk2
/-- What does one and then another one may be. -/
theorem then_check (hc : checkT what width g k L = 0) (hc2 : checkT what width g2 k2 L2 = 0) : checkT what width (thenG what g g2 k2) (thenK what g k g2 k2) (thenL what L L2) = 0 := by
  by_cases h3 : what = 3
  · subst h3
    obtain ⟨hL, h1⟩ := ct_all hc
    obtain ⟨_, h2⟩ := ct_all hc2
    rw [ct_flat hL, if_pos]
    refine ⟨by unfold thenG; rw [if_pos rfl]; rfl, by unfold thenK; rw [if_pos rfl]; rfl, ?_⟩
    unfold thenL
    rw [if_pos rfl, List.all_append, h1, h2]; rfl
  · obtain ⟨hL, fg, fk⟩ := ct_sets hc h3
    obtain ⟨_, fg2, fk2⟩ := ct_sets hc2 h3
    have lg := fits_len fg
    have lk := fits_len fk
    have lg2 := fits_len fg2
    have lk2 := fits_len fk2
    have eG : thenG what g g2 k2 = bothE orN (bothE minN g k2) g2 := by unfold thenG; rw [if_neg h3]
    have eK : thenK what g k g2 k2 = bothE minN (bothE orN k k2) (thenG what g g2 k2) := by unfold thenK; rw [if_neg h3]
    have lG : (thenG what g g2 k2).length = sizeE width := by rw [eG, bothE_len, bothE_len]; omega
    have zG : ∀ z ∈ thenG what g g2 k2, z < 18446744073709551616 := by rw [eG]; exact bothE_lt orN_lt (bothE_lt minN_lt hg hk2) hg2
    have zU : ∀ z ∈ bothE orN k k2, z < 18446744073709551616 := bothE_lt orN_lt hk hk2
    rw [ct_set hL h3, if_pos]
    refine ⟨fits_of zG lG fun i j hj => ?_, fits_of (by rw [eK]; exact bothE_lt minN_lt zU zG) (by rw [eK, bothE_len, bothE_len]; omega) fun i j hj => ?_, by unfold thenL; rw [if_neg h3]; rfl⟩
    · rw [eG, wAt_apply, or_bits, minN_bit _ _ _ (wAt_lt hg i) (wAt_lt hk2 i), Bool.or_eq_true, Bool.and_eq_true] at hj
      rcases hj with hj | hj
      · exact fits_bits hg fg i j hj.1
      · exact fits_bits hg2 fg2 i j hj
    · rw [eK, bothE_at minN rfl, minN_bit _ _ _ (wAt_lt zU i) (wAt_lt zG i), Bool.and_eq_true, bothE_at orN rfl, or_bits, Bool.or_eq_true] at hj
      rcases hj.1 with hj | hj
      · exact fits_bits hk fk i j hj
      · exact fits_bits hk2 fk2 i j hj
include ha
theorem then_apply (hc : checkT what width g k L = 0) (hc2 : checkT what width g2 k2 L2 = 0) (va : valueE what width a = true) :
    applyE what width g2 k2 L2 (applyE what width g k L a) = applyE what width (thenG what g g2 k2) (thenK what g k g2 k2) (thenL what L L2) a := by
  by_cases h3 : what = 3
  · subst h3
    rw [show thenL 3 L L2 = L ++ L2 by unfold thenL; rw [if_pos rfl]]
    exact then_flat hc va
  · obtain ⟨hL, fg, fk⟩ := ct_sets hc h3
    obtain ⟨_, fg2, fk2⟩ := ct_sets hc2 h3
    have la := set_len va h3
    have lg := fits_len fg
    have lk := fits_len fk
    have lg2 := fits_len fg2
    have lk2 := fits_len fk2
    have eG : thenG what g g2 k2 = bothE orN (bothE minN g k2) g2 := by unfold thenG; rw [if_neg h3]
    have eK : thenK what g k g2 k2 = bothE minN (bothE orN k k2) (thenG what g g2 k2) := by unfold thenK; rw [if_neg h3]
    have zG : ∀ z ∈ thenG what g g2 k2, z < 18446744073709551616 := by rw [eG]; exact bothE_lt orN_lt (bothE_lt minN_lt hg hk2) hg2
    have zU : ∀ z ∈ bothE orN k k2, z < 18446744073709551616 := bothE_lt orN_lt hk hk2
    rw [apply_set h3, apply_set h3, apply_set h3, eK]
    refine ext_at (by simp only [bothE_len, eG]; omega) fun i _ => ?_
    rw [wAt_apply, wAt_apply, wAt_apply, bothE_at minN rfl, bothE_at orN rfl]
    have hGi : wAt (thenG what g g2 k2) i = orN (minN (wAt g i) (wAt k2 i)) (wAt g2 i) := by rw [eG, wAt_apply]
    have x := wAt_lt ha i
    have y := wAt_lt hg i
    have z := wAt_lt hk i
    have y2 := wAt_lt hg2 i
    have z2 := wAt_lt hk2 i
    have u := wAt_lt zG i
    rw [hGi] at u ⊢
    generalize wAt a i = A at *
    generalize wAt g i = G at *
    generalize wAt k i = K at *
    generalize wAt g2 i = G2 at *
    generalize wAt k2 i = K2 at *
    refine Nat.eq_of_testBit_eq fun j => ?_
    rw [or_bits, minN_bit _ _ _ (orN_lt _ _ (minN_lt _ _ x z) y) z2, or_bits, minN_bit _ _ _ x z, or_bits, minN_bit _ _ _ x (minN_lt _ _ (orN_lt _ _ z z2) u), minN_bit _ _ _ (orN_lt _ _ z z2) u, or_bits, or_bits, minN_bit _ _ _ y z2]
    cases A.testBit j <;> cases G.testBit j <;> cases K.testBit j <;> cases G2.testBit j <;> cases K2.testBit j <;> rfl
end

end Go.Proofs.Ytflkelnfdoihlaa
