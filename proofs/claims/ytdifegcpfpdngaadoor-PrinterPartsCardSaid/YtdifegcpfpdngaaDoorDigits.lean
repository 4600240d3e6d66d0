/-
  soughref01.Digits and Text: contracts.
-/
import Derived.Test.YtdifegcpfpdngaaDoorText
import Derived.Test.YtdifegcpfpdngaaDoorGaussRef
import Derived.Laws.IdiomStrings
import Derived.Maps.AppendAt
namespace Go.Proofs.YtdifegcpfpdngaaDoor
open Go.RowKit

theorem dec_small {n : Nat} (h : n < 10) : Lib.decDigits n = [UInt8.ofNat (48 + n)] := by rw [Lib.decDigits, dif_pos h]
theorem dec_big {n : Nat} (h : ¬ n < 10) : Lib.decDigits n = cat (Lib.decDigits (n / 10)) [UInt8.ofNat (48 + n % 10)] := by rw [Lib.decDigits, dif_neg h]; rfl

/-- The last digit. -/
def dgt (n : Nat) : UInt8 := UInt8.ofNat (48 + n % 10)
theorem dgt_nat (n : Nat) : ((dgt n).toNat : Int) = 48 + (n : Int) % 10 := by
  unfold dgt; rw [UInt8.toNat_ofNat']; omega
/-- The text of one digit, as the walk makes it. -/
theorem digit_conv (n : Nat) (w : World) : (convert 78 9 (.slice (some ⟨w.heap.size, 0, none⟩) 1 1)).run Tryd.prog (w.alloc (.cells #[.int .u8 (48 + (n : Int) % 10)] 5)) = .ok (.string ⟨[dgt n].toArray⟩) (w.alloc (.cells #[.int .u8 (48 + (n : Int) % 10)] 5)) := by
  refine run_convert_bytes_back _ _ _ 5 ⟨w.heap.size, 0, none⟩ 1 [dgt n] (by kernel_rfl) (by kernel_rfl) (by kernel_rfl) ?_
  intro j hj
  obtain rfl : j = 0 := by simp at hj; omega
  have e := dgt_nat n
  rw [cell_one_new]
  simp only [List.getElem_cons_zero]
  rw [e]
  rfl

set_option maxHeartbeats 1600000 in
set_option maxRecDepth 100000 in
theorem digit_one (n : Nat) (w : World) (h : n < 10) :
    Calls Tryd.prog 52 #[.int .i64 n] w fun e w' => e = .returned (.string ⟨(Lib.decDigits n).toArray⟩) ∧ Below w.heap.size w w' := by
  have hc := digit_conv n w
  have hd : Lib.decDigits n = [dgt n] := by rw [dec_small h, dgt, show n % 10 = n from by omega]
  have Hd := Lib.hid hd
  clear hd
  go_enter Tryd.func52, Tryd.ntmps52
  go_wp2_with fail
  go_ret
  exact ⟨ret_str Hd.out.symm, (Below.refl _ _).alloc (Nat.le_refl _) _⟩

set_option maxHeartbeats 1600000 in
set_option maxRecDepth 100000 in
theorem digits_nat (k : Nat) : ∀ (n : Nat) (w : World), n ≤ k → n ≤ 9223372036854775807 →
    Calls Tryd.prog 52 #[.int .i64 n] w fun e w' => e = .returned (.string ⟨(Lib.decDigits n).toArray⟩) ∧ Below w.heap.size w w' := by
  induction k with
  | zero => intro n w hk _; exact digit_one n w (by omega)
  | succ k ih =>
    intro n w hk hm
    by_cases h : n < 10
    · exact digit_one n w h
    · have Ih := Lib.hid ih
      clear ih
      have hc := digit_conv n w
      have hd : Lib.decDigits n = cat (Lib.decDigits (n / 10)) [dgt n] := dec_big h
      have hl : (Lib.decDigits (n / 10)).length ≤ 21 := by
        have := Lib.itoa_length_le ((n / 10 : Nat) : Int) (by omega) (by omega)
        rwa [Lib.itoa_nonneg] at this
      have s1 := cat_run (P := Tryd.prog) (Lib.decDigits (n / 10)) [dgt n] (by simp; omega)
      have Hd := Lib.hid hd
      have Hm := Lib.hid hm
      have hm1 : (n : Int) ≤ 9223372036854775807 := by omega
      clear hd hl hm
      go_enter Tryd.func52, Tryd.ntmps52
      go_wp2_with fail
      rw [show ((n : Int) / 10) = ((n / 10 : Nat) : Int) from by omega]
      refine (Ih.out (n / 10) _ (by omega) (by have := Hm.out; omega)).mono ?_
      rintro e w1 ⟨rfl, hB⟩
      go_wp2_with fail
      go_ret
      exact ⟨ret_str Hd.out.symm, ((Below.refl w.heap.size w).alloc (Nat.le_refl _) _).trans (hB.mono (by simp))⟩

set_option maxHeartbeats 1600000 in
set_option maxRecDepth 100000 in
theorem digits_any (n : Int) (w : World) (h : -9223372036854775807 ≤ n ∧ n ≤ 9223372036854775807) :
    Calls Tryd.prog 52 #[.int .i64 n] w fun e w' => e = .returned (.string ⟨(Lib.itoa n).toArray⟩) ∧ Below w.heap.size w w' := by
  by_cases hn : 0 ≤ n
  · obtain ⟨m, rfl⟩ := Int.eq_ofNat_of_zero_le hn
    rw [Lib.itoa_nonneg]
    exact digits_nat m m w (Nat.le_refl _) (by omega)
  · obtain ⟨m, rfl⟩ : ∃ m : Nat, n = -(m : Int) := ⟨n.natAbs, by omega⟩
    have hm : 1 ≤ m := by omega
    have hd : Lib.itoa (-(m : Int)) = cat [45] (Lib.decDigits m) := by rw [Lib.itoa_neg m hm]; rfl
    have hl : (Lib.decDigits m).length ≤ 21 := by
      have := Lib.itoa_length_le (m : Int) (by omega) (by omega)
      rwa [Lib.itoa_nonneg] at this
    have s1 := cat_run (P := Tryd.prog) [45] (Lib.decDigits m) (by simp; omega)
    have Hd := Lib.hid hd
    have Hh := Lib.hid h
    have hm1 : (m : Int) ≤ 9223372036854775807 := by omega
    clear hd hl h hn
    go_enter Tryd.func52, Tryd.ntmps52
    go_wp2_with fail
    refine (digits_nat m m _ (Nat.le_refl _) (by omega)).mono ?_
    rintro e w1 ⟨rfl, hB⟩
    go_wp2_with fail
    go_ret
    exact ⟨ret_str Hd.out.symm, hB⟩

set_option maxHeartbeats 1600000 in
set_option maxRecDepth 100000 in
theorem rtext_any (a b : Int) (w : World) :
    Calls Tryd.prog 11 #[.agg #[.int .i64 a, .int .i64 b]] w fun e w' => e = .returned (.string ⟨(ntext a b).toArray⟩) ∧ Below w.heap.size w w' := by
  have hb := And.intro (wr_bd a) (wr_bd b)
  have Hb := Lib.hid hb
  clear hb
  go_enter Tryd.func11, Tryd.ntmps11
  go_wp2_with fail
  refine (rof_any _ _ _).mono ?_
  rintro e w1 ⟨rfl, hB1⟩
  have p := (P2.new w (.int .i64 a) (.int .i64 b) 23).keep hB1
  have P := Lib.hid (p.set (.int .i64 (wr a)) (.int .i64 (wr b)))
  obtain ⟨a0, a1, a2, a3⟩ := p
  have HB := Lib.hid (bel_set2 (((Below.refl w.heap.size w).alloc (Nat.le_refl _) (.cells #[.int .i64 a, .int .i64 b] 23)).trans (hB1.mono (by simp))) (Nat.le_refl _) (.int .i64 (wr a)) (.int .i64 (wr b)))
  clear hB1
  by_cases hz : wr b = 0
  · have hn : ntext a b = Lib.itoa (wr a) := if_pos hz
    have Hn := Lib.hid hn
    have e0 : (wr b == 0) = true := by rw [hz]; rfl
    clear hz hn
    go_wp2_with fail
    refine (digits_any _ _ (by have := Hb.out; omega)).mono ?_
    rintro e w2 ⟨rfl, hB2⟩
    have HB2 := Lib.hid hB2
    clear hB2
    go_wp2_with fail
    go_ret
    exact ⟨ret_str Hn.out.symm, bel_then HB.out HB2.out⟩
  · have hn : ntext a b = cat (cat (cat (cat [40] (Lib.itoa (wr a))) [44]) (Lib.itoa (wr b))) [41] := if_neg hz
    have Hn := Lib.hid hn
    have e0 : (wr b == 0) = false := by simpa using hz
    clear hz hn
    have hl1 := Lib.itoa_length_le (wr a) (by have := Hb.out; omega) (by have := Hb.out; omega)
    have hl2 := Lib.itoa_length_le (wr b) (by have := Hb.out; omega) (by have := Hb.out; omega)
    have s1 := cat_run (P := Tryd.prog) [40] (Lib.itoa (wr a)) (by simp; omega)
    have s2 := cat_run (P := Tryd.prog) (cat [40] (Lib.itoa (wr a))) [44] (by simp [cat_len]; omega)
    have s3 := cat_run (P := Tryd.prog) (cat (cat [40] (Lib.itoa (wr a))) [44]) (Lib.itoa (wr b)) (by simp [cat_len]; omega)
    have s4 := cat_run (P := Tryd.prog) (cat (cat (cat [40] (Lib.itoa (wr a))) [44]) (Lib.itoa (wr b))) [41] (by simp [cat_len]; omega)
    clear hl1 hl2
    go_wp2_with fail
    generalize (w1.setCell ⟨w.heap.size, 0, none⟩ (.int .i64 (wr a))).setCell ⟨w.heap.size, 1, none⟩ (.int .i64 (wr b)) = W1 at *
    clear a0 a1 a2 a3
    go_region_held3 (fun w' => w'.cell? ⟨w.heap.size, 0, none⟩ = some (.int .i64 (wr a)) ∧ w'.cell? ⟨w.heap.size, 1, none⟩ = some (.int .i64 (wr b)) ∧ Below w.heap.size w w')
      (first
        | exact ⟨P.out.1, P.out.2.1, HB.out.drew⟩
        | (go_split_ands; exact ⟨keepc (by assumption) hB, keepc (by assumption) hB, bel_then (by assumption) hB⟩))
      (first
        | (go_at_call 52; go_split_ands; refine (digits_any _ _ (by have := Hb.out; omega)).mono ?_; rintro e w' ⟨rfl, hB⟩))
    all_goals
      go_split_ands
      go_wp2_with fail
      go_ret
      exact ⟨ret_str Hn.out.symm, by assumption⟩

end Go.Proofs.YtdifegcpfpdngaaDoor
