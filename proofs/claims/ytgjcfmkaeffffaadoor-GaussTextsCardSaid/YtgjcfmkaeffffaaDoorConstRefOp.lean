/-
  soughref01.Word, soughref11.Of, soughref11.Op: contracts.
-/
import Derived.Test.YtgjcfmkaeffffaaDoorGaussRefOp
import Derived.Test.YtgjcfmkaeffffaaDoorConstRef
import Derived.Test.YtgjcfmkaeffffaaDoorConstOp
namespace Go.Proofs.YtgjcfmkaeffffaaDoor
open Go.RowKit

theorem word_wr (a b : Int) : word (wr a) (wr b) = word a b := by unfold word wr; omega

theorem rword_any (a b : Int) (w : World) :
    Calls Tryd.prog 26 #[.agg #[.int .i64 a, .int .i64 b]] w fun e w' => e = .returned (.int .u64 (word a b)) ∧ Below w.heap.size w w' := by
  have ba := wr_bd a
  have bb := wr_bd b
  have hw : (wr a + 65536) % 65536 + 65536 * ((wr b + 65536) % 65536) = word a b := by rw [← word_wr]; unfold word; omega
  have Hw := Lib.hid hw
  clear hw
  go_enter Tryd.func26, Tryd.ntmps26
  go_wp2_with fail
  refine (rof_any _ _ _).mono ?_
  rintro e w1 ⟨rfl, hB1⟩
  obtain ⟨a0, a1, a2, a3⟩ := (P2.new w (.int .i64 a) (.int .i64 b) 23).keep hB1
  have HB := Lib.hid (bel_set2 (((Below.refl w.heap.size w).alloc (Nat.le_refl _) (.cells #[.int .i64 a, .int .i64 b] 23)).trans (hB1.mono (by simp))) (Nat.le_refl _) (.int .i64 (wr a)) (.int .i64 (wr b)))
  clear hB1
  go_wp2_with fail
  go_ret
  exact ⟨ret_int (by have := Hw.out; omega), HB.out⟩

theorem rcof_any (a b : Int) (w : World) :
    Calls Tryd.prog 54 #[.agg #[.int .i64 a, .int .i64 b]] w fun e w' => e = .returned (.int .u64 (2 + 4 * word a b)) ∧ Below w.heap.size w w' := by
  have hb := word_bd a b
  go_enter Tryd.func54, Tryd.ntmps54
  go_wp2_with (go_at_call 26; refine (rword_any _ _ _).mono ?_; rintro e w1 ⟨rfl, hB⟩)
  go_ret
  exact ⟨ret_int (by omega), ((Below.refl w.heap.size w).alloc (Nat.le_refl _) _).trans (hB.mono (by simp))⟩

/-- The same, of words that count. -/
def rr (op x y : Int) : Int := if x = 0 ∨ y = 0 then 0 else if x = 1 ∨ y = 1 then 1 else if ropE op = true then 2 + 4 * word (gop op (numv x).1 (numv x).2 (numv y).1 (numv y).2).1 (gop op (numv x).1 (numv x).2 (numv y).1 (numv y).2).2 else 1

theorem sou_cases (x : Int) : sou x = 0 ∨ sou x = 1 ∨ (isn x = true ∧ sou x = x ∧ x ≠ 0 ∧ x ≠ 1) := by
  unfold sou
  by_cases h : isn x = true
  · rw [if_pos h]
    have h' : x % 4 = 2 := by simp [isn] at h; exact h.1
    exact .inr (.inr ⟨h, rfl, by omega, by omega⟩)
  · rw [if_neg h]; split <;> simp
theorem sou_not {x : Int} (h : sou x = 0 ∨ sou x = 1) : isn x = false := by
  cases hi : isn x
  · rfl
  · have h' : x % 4 = 2 := by simp [isn] at hi; exact hi.1
    have := sou_isn hi
    omega
theorem ropE_gopE (op : Int) : (ropE op = true) = (gopE op = 0) := by
  unfold ropE gopE
  by_cases h : 0 ≤ op ∧ op ≤ 4 <;> simp [h]
theorem numv_two : numv 2 = (0, 0) := by decide
theorem gop_left {op a b c d : Int} (h : op = 0 ∨ op = 4) : gop op a b c d = gop op a b 0 0 := by
  rcases h with rfl | rfl <;> simp [gop]

theorem cop_rr (op a b : Int) : cop op a b = rr op (sou a) (if op = 0 ∨ op = 4 then 2 else sou b) := by
  unfold cop rr
  by_cases hop : op = 0 ∨ op = 4
  · rw [if_pos hop, if_pos hop]
    unfold ccome1 cres
    rcases sou_cases a with h | h | ⟨hi, h, h0, h1⟩
    · simp [h]
    · have := sou_not (.inr h)
      simp [h, this]
    · simp [h, h0, h1, hi, ropE_gopE, numv_two]
  · rw [if_neg hop, if_neg hop]
    unfold ccome2 cres
    rcases sou_cases a with h | h | ⟨hi, h, h0, h1⟩
    · simp [h]
    · have := sou_not (.inr h)
      rcases sou_cases b with k | k | ⟨ki, k, k0, k1⟩
      · simp [h, k]
      · simp [h, k, this]
      · simp [h, k, this, k0]
    · rcases sou_cases b with k | k | ⟨ki, k, k0, k1⟩
      · simp [h, k]
      · have := sou_not (.inr k)
        simp [h, k, this, h0]
      · simp [h, k, h0, h1, k0, k1, hi, ki, ropE_gopE]

theorem rr_zero {op x y : Int} (h : x = 0 ∨ y = 0) : rr op x y = 0 := by unfold rr; rw [if_pos h]
theorem rr_one {op x y : Int} (h0 : ¬ (x = 0 ∨ y = 0)) (h : x = 1 ∨ y = 1) : rr op x y = 1 := by unfold rr; rw [if_neg h0, if_pos h]
theorem rr_bad {op x y : Int} (h0 : ¬ (x = 0 ∨ y = 0)) (h : ¬ (x = 1 ∨ y = 1)) (e : ropE op = false) : rr op x y = 1 := by unfold rr; rw [if_neg h0, if_neg h, e]; rfl
theorem rr_num {op x y : Int} (h0 : ¬ (x = 0 ∨ y = 0)) (h : ¬ (x = 1 ∨ y = 1)) (e : ropE op = true) :
    rr op x y = 2 + 4 * word (gop op (numv x).1 (numv x).2 (numv y).1 (numv y).2).1 (gop op (numv x).1 (numv x).2 (numv y).1 (numv y).2).2 := by unfold rr; rw [if_neg h0, if_neg h, e]; rfl

end Go.Proofs.YtgjcfmkaeffffaaDoor
