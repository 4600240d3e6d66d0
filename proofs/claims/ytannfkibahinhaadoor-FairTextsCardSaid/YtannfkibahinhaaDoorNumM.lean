/-
  Decimal texts: what a number's text begins, where it ends, and what it is read as. No program.
-/
import Derived.Test.YtannfkibahinhaaDoorKit
import Derived.Lib.ItoaMem
import Derived.Lib.AtoiAll
import Derived.Lib.AtoiAllCases
namespace Go.Proofs.YtannfkibahinhaaDoor
open Go.RowKit

theorem nd_small {n : Nat} (h : n < 10) : Lib.decDigits n = [UInt8.ofNat (48 + n)] := by rw [Lib.decDigits, dif_pos h]
theorem nd_big {n : Nat} (h : ¬ n < 10) : Lib.decDigits n = cat (Lib.decDigits (n / 10)) [UInt8.ofNat (48 + n % 10)] := by rw [Lib.decDigits, dif_neg h]; rfl
theorem nd_mem (k : Nat) : ∀ u, u ≤ k → ∀ c ∈ Lib.decDigits u, 48 ≤ c.toNat ∧ c.toNat ≤ 57 := by
  induction k with
  | zero =>
    intro u hu c hc
    rw [nd_small (by omega)] at hc
    simp only [List.mem_cons, List.not_mem_nil, or_false] at hc
    subst hc
    simp only [UInt8.toNat_ofNat']
    omega
  | succ k ih =>
    intro u hu c hc
    by_cases h : u < 10
    · rw [nd_small h] at hc
      simp only [List.mem_cons, List.not_mem_nil, or_false] at hc
      subst hc
      simp only [UInt8.toNat_ofNat']
      omega
    · rw [nd_big h] at hc
      unfold cat at hc
      rcases List.mem_append.1 hc with hc | hc
      · exact ih (u / 10) (by omega) c hc
      · simp only [List.mem_cons, List.not_mem_nil, or_false] at hc
        subst hc
        simp only [UInt8.toNat_ofNat']
        omega
theorem nd_ne (u : Nat) : Lib.decDigits u ≠ [] := by
  by_cases h : u < 10
  · rw [nd_small h]; simp
  · rw [nd_big h]; unfold cat; simp

def isD (c : UInt8) : Bool := decide (48 ≤ c.toNat) && decide (c.toNat ≤ 57)
/-- How many digits a text begins with. -/
def drun : List UInt8 → Nat
  | [] => 0
  | c :: r => if isD c then drun r + 1 else 0
theorem drun_le (s : List UInt8) : drun s ≤ s.length := by
  induction s with
  | nil => exact Nat.le_refl _
  | cons c r ih => simp only [drun, List.length_cons]; split <;> omega
theorem drun_app (s r : List UInt8) (h : ∀ c ∈ s, isD c = true) : drun (s ++ r) = s.length + drun r := by
  induction s with
  | nil => simp
  | cons c s ih =>
    rw [List.cons_append, drun, if_pos (h c (by simp)), ih (fun d hd => h d (by simp [hd])), List.length_cons]
    omega
/-- How long the number is that a text begins with: a sign, and digits. -/
def nlen (s : List UInt8) : Nat :=
  match s with
  | [] => 0
  | c :: r => if c = 45 then drun r + 1 else drun (c :: r)
theorem nlen_le (s : List UInt8) : nlen s ≤ s.length := by
  unfold nlen
  split
  · simp
  · next c r =>
    split
    · have := drun_le r; simp; omega
    · exact drun_le _
theorem dec_isD (u : Nat) : ∀ c ∈ Lib.decDigits u, isD c = true := fun c hc => by
  have := nd_mem u u (Nat.le_refl _) c hc
  simp [isD, this.1, this.2]
/-- A text that goes on behind a number with no digit. -/
def noD (r : List UInt8) : Prop := ∀ c, r.head? = some c → isD c = false
theorem drun_noD {r : List UInt8} (h : noD r) : drun r = 0 := by
  match r with
  | [] => rfl
  | c :: r => rw [drun, h c rfl]; rfl
theorem nlen_itoa (n : Int) (r : List UInt8) (h : noD r) : nlen (Lib.itoa n ++ r) = (Lib.itoa n).length := by
  unfold Lib.itoa
  split
  · show drun (Lib.decDigits n.natAbs ++ r) + 1 = _
    rw [drun_app _ _ (dec_isD _), drun_noD h]
    simp
  · have hne := nd_ne n.toNat
    have hd := dec_isD n.toNat
    have ha := drun_app _ r hd
    rw [drun_noD h] at ha
    match hl : Lib.decDigits n.toNat with
    | [] => exact absurd hl hne
    | c :: l =>
      rw [hl] at ha hd
      have hc := hd c (by simp)
      have : c ≠ 45 := by rintro rfl; revert hc; decide
      show (if c = 45 then drun (l ++ r) + 1 else drun (c :: (l ++ r))) = _
      rw [if_neg this]
      simpa using ha

theorem parse_app (l : List UInt8) : ∀ (acc u : Nat) (c : UInt8), Lib.parseUint10 acc l = .ok u → isD c = true → u * 10 + (c.toNat - 48) < 18446744073709551616 → Lib.parseUint10 acc (l ++ [c]) = .ok (u * 10 + (c.toNat - 48)) := by
  induction l with
  | nil =>
    intro acc u c h hc hu
    simp only [Lib.parseUint10] at h
    injection h with h
    subst h
    simp only [isD, Bool.and_eq_true, decide_eq_true_eq] at hc
    show (if _ then _ else _) = _
    rw [if_pos hc, if_neg (by omega), if_neg (by omega)]
    rfl
  | cons d l ih =>
    intro acc u c h hc hu
    rw [List.cons_append]
    simp only [Lib.parseUint10] at h ⊢
    split at h
    · next h1 =>
      rw [if_pos h1]
      split at h
      · cases h
      · next h2 =>
        rw [if_neg h2]
        split at h
        · cases h
        · next h3 =>
          rw [if_neg h3]
          exact ih _ _ _ h hc hu
    · cases h
theorem parse_dec (k : Nat) : ∀ u, u ≤ k → u < 18446744073709551616 → Lib.parseUint10 0 (Lib.decDigits u) = .ok u := by
  induction k with
  | zero =>
    intro u hu _
    obtain rfl : u = 0 := by omega
    rw [nd_small (by omega)]
    decide
  | succ k ih =>
    intro u hu hlt
    by_cases h : u < 10
    · rw [nd_small h]
      have e : (UInt8.ofNat (48 + u)).toNat = 48 + u := by rw [UInt8.toNat_ofNat']; omega
      show (if _ then _ else _) = _
      rw [e, if_pos (by omega), if_neg (by omega), if_neg (by omega)]
      show Lib.NumEnd.ok _ = _
      congr 1
      omega
    · rw [nd_big h]
      have e : (UInt8.ofNat (48 + u % 10)).toNat = 48 + u % 10 := by rw [UInt8.toNat_ofNat']; omega
      have := parse_app _ 0 (u / 10) (UInt8.ofNat (48 + u % 10)) (ih (u / 10) (by omega) (by omega)) (by simp only [isD, e, Bool.and_eq_true, decide_eq_true_eq]; omega) (by rw [e]; omega)
      rw [e] at this
      show Lib.parseUint10 0 (Lib.decDigits (u / 10) ++ [UInt8.ofNat (48 + u % 10)]) = _
      rw [this]
      congr 1
      omega
theorem mag_dec (u : Nat) (h : u < 18446744073709551616) : Lib.parseMag (Lib.decDigits u) = .ok u := by
  unfold Lib.parseMag
  rw [if_neg (nd_ne u)]
  exact parse_dec u u (Nat.le_refl _) h
theorem atoi_itoa (n : Int) (h : -9223372036854775808 ≤ n ∧ n ≤ 9223372036854775807) : Lib.atoiAll (Lib.itoa n) = .ok n := by
  unfold Lib.itoa
  split
  · next hn =>
    simp only [Lib.atoiAll]
    rw [if_pos (.inr (by decide)), mag_dec _ (by omega)]
    simp only
    rw [if_neg (by simp), if_neg (by omega), if_pos (by decide)]
    congr 1
    omega
  · next hn =>
    have hm := mag_dec n.toNat (by omega)
    have hd := dec_isD n.toNat
    match hl : Lib.decDigits n.toNat with
    | [] => exact absurd hl (nd_ne _)
    | c :: l =>
      rw [hl] at hm hd
      have hc := hd c (by simp)
      simp only [isD, Bool.and_eq_true, decide_eq_true_eq] at hc
      simp only [Lib.atoiAll]
      rw [if_neg (by omega), hm]
      simp only
      rw [if_neg (by omega), if_neg (by omega), if_neg (by omega)]
      congr 1
      omega

end Go.Proofs.YtannfkibahinhaaDoor
