/-
  soughref26.digits, Digits: contracts.
-/
import Derived.Test.YtannfkibahinhaaDoorFairT
import Derived.Test.YtannfkibahinhaaDoorNumM
import Derived.Laws.IdiomStrings
import Derived.Maps.AppendAt
namespace Go.Proofs.YtannfkibahinhaaDoor
open Go.RowKit

/-- The last digit. -/
def dg6 (n : Nat) : UInt8 := UInt8.ofNat (48 + n % 10)
theorem dg6_nat (n : Nat) : ((dg6 n).toNat : Int) = 48 + (n : Int) % 10 := by
  unfold dg6; rw [UInt8.toNat_ofNat']; omega
/-- The text of one digit, as the walk makes it. -/
theorem digit_conv6 (n : Nat) (w : World) : (convert 42 9 (.slice (some ⟨w.heap.size, 0, none⟩) 1 1)).run Tryd.prog (w.alloc (.cells #[.int .u8 (48 + (n : Int) % 10)] 5)) = .ok (.string ⟨[dg6 n].toArray⟩) (w.alloc (.cells #[.int .u8 (48 + (n : Int) % 10)] 5)) := by
  refine run_convert_bytes_back _ _ _ 5 ⟨w.heap.size, 0, none⟩ 1 [dg6 n] (by kernel_rfl) (by kernel_rfl) (by kernel_rfl) ?_
  intro j hj
  obtain rfl : j = 0 := by simp at hj; omega
  have e := dg6_nat n
  rw [cell_one_new]
  simp only [List.getElem_cons_zero]
  rw [e]
  rfl

set_option maxHeartbeats 1600000 in
set_option maxRecDepth 100000 in
theorem digit_one6 (n : Nat) (w : World) (h : n < 10) :
    Calls Tryd.prog 36 #[.int .u64 n] w fun e w' => e = .returned (.string ⟨(Lib.decDigits n).toArray⟩) ∧ Below w.heap.size w w' := by
  have hc := digit_conv6 n w
  have hd : Lib.decDigits n = [dg6 n] := by rw [nd_small h, dg6, show n % 10 = n from by omega]
  have Hd := Lib.hid hd
  have e1 : IntKind.u64.wrap (48 + (n : Int) % 10) = 48 + (n : Int) % 10 := by rw [IntKind.wrap_u64]; omega
  have e2 : IntKind.u8.wrap (48 + (n : Int) % 10) = 48 + (n : Int) % 10 := by simp only [IntKind.wrap, IntKind.signed, IntKind.bits]; simp; omega
  clear hd
  go_enter Tryd.func36, Tryd.ntmps36
  go_wp2_with fail
  go_ret
  exact ⟨ret_str Hd.out.symm, (Below.refl _ _).alloc (Nat.le_refl _) _⟩

set_option maxHeartbeats 1600000 in
set_option maxRecDepth 100000 in
theorem digits_nat6 (k : Nat) : ∀ (n : Nat) (w : World), n ≤ k → n ≤ 9223372036854775808 →
    Calls Tryd.prog 36 #[.int .u64 n] w fun e w' => e = .returned (.string ⟨(Lib.decDigits n).toArray⟩) ∧ Below w.heap.size w w' := by
  induction k with
  | zero => intro n w hk _; exact digit_one6 n w (by omega)
  | succ k ih =>
    intro n w hk hm
    by_cases h : n < 10
    · exact digit_one6 n w h
    · have Ih := Lib.hid ih
      clear ih
      have hc := digit_conv6 n w
      have hd : Lib.decDigits n = cat (Lib.decDigits (n / 10)) [dg6 n] := nd_big h
      have hl : (Lib.decDigits (n / 10)).length ≤ 21 := by
        have := Lib.itoa_length_le ((n / 10 : Nat) : Int) (by omega) (by omega)
        rwa [Lib.itoa_nonneg] at this
      have s1 := cat_run (P := Tryd.prog) (Lib.decDigits (n / 10)) [dg6 n] (by simp; omega)
      have Hd := Lib.hid hd
      have Hm := Lib.hid hm
      have e1 : IntKind.u64.wrap (48 + (n : Int) % 10) = 48 + (n : Int) % 10 := by rw [IntKind.wrap_u64]; omega
      have e2 : IntKind.u8.wrap (48 + (n : Int) % 10) = 48 + (n : Int) % 10 := by simp only [IntKind.wrap, IntKind.signed, IntKind.bits]; simp; omega
      clear hd hl hm
      go_enter Tryd.func36, Tryd.ntmps36
      go_wp2_with fail
      rw [show IntKind.u64.wrap ((n : Int) / 10) = ((n / 10 : Nat) : Int) from by have := Hm.out; rw [IntKind.wrap_u64]; omega]
      refine (Ih.out (n / 10) _ (by omega) (by have := Hm.out; omega)).mono ?_
      rintro e w1 ⟨rfl, hB⟩
      go_wp2_with fail
      go_ret
      exact ⟨ret_str Hd.out.symm, ((Below.refl w.heap.size w).alloc (Nat.le_refl _) _).trans (hB.mono (by simp))⟩

set_option maxHeartbeats 1600000 in
set_option maxRecDepth 100000 in
theorem digits_any6 (n : Int) (w : World) (h : I64 n) :
    Calls Tryd.prog 24 #[.int .i64 n] w fun e w' => e = .returned (.string ⟨(Lib.itoa n).toArray⟩) ∧ Below w.heap.size w w' := by
  have Hh := Lib.hid h
  by_cases hn : 0 ≤ n
  · obtain ⟨m, rfl⟩ := Int.eq_ofNat_of_zero_le hn
    rw [Lib.itoa_nonneg]
    have e1 : IntKind.u64.wrap (m : Int) = (m : Int) := by have := Hh.out.2; rw [IntKind.wrap_u64]; omega
    clear h hn
    go_enter Tryd.func24, Tryd.ntmps24
    go_wp2_with fail
    refine (digits_nat6 m m _ (Nat.le_refl _) (by have := Hh.out.2; omega)).mono ?_
    rintro e w1 ⟨rfl, hB⟩
    have HB := Lib.hid hB
    go_wp2_with fail
    go_ret
    exact ⟨rfl, HB.out⟩
  · obtain ⟨m, rfl⟩ : ∃ m : Nat, n = -(m : Int) := ⟨n.natAbs, by omega⟩
    have hm : 1 ≤ m := by omega
    have hd : Lib.itoa (-(m : Int)) = cat [45] (Lib.decDigits m) := by rw [Lib.itoa_neg m hm]; rfl
    have hm2 : m ≤ 9223372036854775808 := by have := Hh.out.1; omega
    have hl : (Lib.decDigits m).length ≤ 30 := by
      have := Lib.itoa_length_le (-(m : Int)) (by omega) (by omega)
      rw [hd, cat_len] at this
      omega
    have s1 := cat_run (P := Tryd.prog) [45] (Lib.decDigits m) (by simp; omega)
    have Hd := Lib.hid hd
    have hlt : decide (-(m : Int) < 0) = true := by simp; omega
    have e1 : IntKind.u64.wrap (-(m : Int)) = 18446744073709551616 - (m : Int) := by rw [IntKind.wrap_u64]; omega
    have e2 : IntKind.u64.wrap (-(18446744073709551616 - (m : Int))) = (m : Int) := by rw [IntKind.wrap_u64]; omega
    have e3 : IntKind.u64.wrap (0 - (18446744073709551616 - (m : Int))) = (m : Int) := by rw [IntKind.wrap_u64]; omega
    clear hd hl h hn
    go_enter Tryd.func24, Tryd.ntmps24
    go_wp2_with fail
    refine (digits_nat6 m m _ (Nat.le_refl _) hm2).mono ?_
    rintro e w1 ⟨rfl, hB⟩
    have HB := Lib.hid hB
    go_wp2_with fail
    go_ret
    exact ⟨ret_str Hd.out.symm, HB.out⟩

end Go.Proofs.YtannfkibahinhaaDoor
