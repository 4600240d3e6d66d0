/-
  soughref01.Word, soughref11.Of, soughref11.Op: contracts.
-/
import Derived.Test.YtflkelnfdoihlaaGaussRefOp
import Derived.Test.YtflkelnfdoihlaaConstRef
import Derived.Test.YtflkelnfdoihlaaConstOp
namespace Go.Proofs.Ytflkelnfdoihlaa
open Go.RowKit

theorem word_wr (a b : Int) : word (wr a) (wr b) = word a b := by unfold word wr; omega

theorem rword_any (a b : Int) (w : World) :
    Calls Try.prog 101 #[.agg #[.int .i64 a, .int .i64 b]] w fun e w' => e = .returned (.int .u64 (word a b)) ∧ Below w.heap.size w w' := by
  have ba := wr_bd a
  have bb := wr_bd b
  have hw : (wr a + 65536) % 65536 + 65536 * ((wr b + 65536) % 65536) = word a b := by rw [← word_wr]; unfold word; omega
  have Hw := Lib.hid hw
  clear hw
  go_enter Try.func101, Try.ntmps101
  go_wp2_with fail
  refine (rof_any _ _ _).mono ?_
  rintro e w1 ⟨rfl, hB1⟩
  obtain ⟨a0, a1, a2, a3⟩ := (P2.new w (.int .i64 a) (.int .i64 b) 78).keep hB1
  have HB := Lib.hid (bel_set2 (((Below.refl w.heap.size w).alloc (Nat.le_refl _) (.cells #[.int .i64 a, .int .i64 b] 78)).trans (hB1.mono (by simp))) (Nat.le_refl _) (.int .i64 (wr a)) (.int .i64 (wr b)))
  clear hB1
  go_wp2_with fail
  go_ret
  exact ⟨ret_int (by have := Hw.out; omega), HB.out⟩

theorem rcof_any (a b : Int) (w : World) :
    Calls Try.prog 93 #[.agg #[.int .i64 a, .int .i64 b]] w fun e w' => e = .returned (.int .u64 (2 + 4 * word a b)) ∧ Below w.heap.size w w' := by
  have hb := word_bd a b
  go_enter Try.func93, Try.ntmps93
  go_wp2_with (go_at_call 101; refine (rword_any _ _ _).mono ?_; rintro e w1 ⟨rfl, hB⟩)
  go_ret
  exact ⟨ret_int (by omega), ((Below.refl w.heap.size w).alloc (Nat.le_refl _) _).trans (hB.mono (by simp))⟩

/-- The same, of words that count. -/
def rr (op x y : Int) : Int := if x = 0 ∨ y = 0 then 0 else if x = 1 ∨ y = 1 then 1 else if ropE op = true then 2 + 4 * word (gop op (numv x).1 (numv x).2 (numv y).1 (numv y).2).1 (gop op (numv x).1 (numv x).2 (numv y).1 (numv y).2).2 else 1

theorem sou_cases (x : Int) : sou x = 0 ∨ sou x = 1 ∨ (isn x = true ∧ sou x = x ∧ x ≠ 0 ∧ x ≠ 1) := by
  unfold sou
  by_cases h : isn x = true
  · rw [if_pos h]
    have h' : x % 4 = 2 := by simp [isn] at h; exact h.1
    exact .inr (.inr ⟨h, rfl, by omega, by omega⟩)
  · rw [if_neg h]; split <;> simp
theorem sou_not {x : Int} (h : sou x = 0 ∨ sou x = 1) : isn x = false := by
  cases hi : isn x
  · rfl
  · have h' : x % 4 = 2 := by simp [isn] at hi; exact hi.1
    have := sou_isn hi
    omega
theorem ropE_gopE (op : Int) : (ropE op = true) = (gopE op = 0) := by
  unfold ropE gopE
  by_cases h : 0 ≤ op ∧ op ≤ 4 <;> simp [h]
theorem numv_two : numv 2 = (0, 0) := by decide
theorem gop_left {op a b c d : Int} (h : op = 0 ∨ op = 4) : gop op a b c d = gop op a b 0 0 := by
  rcases h with rfl | rfl <;> simp [gop]

theorem cop_rr (op a b : Int) : cop op a b = rr op (sou a) (if op = 0 ∨ op = 4 then 2 else sou b) := by
  unfold cop rr
  by_cases hop : op = 0 ∨ op = 4
  · rw [if_pos hop, if_pos hop]
    unfold ccome1 cres
    rcases sou_cases a with h | h | ⟨hi, h, h0, h1⟩
    · simp [h]
    · have := sou_not (.inr h)
      simp [h, this]
    · simp [h, h0, h1, hi, ropE_gopE, numv_two]
  · rw [if_neg hop, if_neg hop]
    unfold ccome2 cres
    rcases sou_cases a with h | h | ⟨hi, h, h0, h1⟩
    · simp [h]
    · have := sou_not (.inr h)
      rcases sou_cases b with k | k | ⟨ki, k, k0, k1⟩
      · simp [h, k]
      · simp [h, k, this]
      · simp [h, k, this, k0]
    · rcases sou_cases b with k | k | ⟨ki, k, k0, k1⟩
      · simp [h, k]
      · have := sou_not (.inr k)
        simp [h, k, this, h0]
      · simp [h, k, h0, h1, k0, k1, hi, ki, ropE_gopE]

theorem rr_zero {op x y : Int} (h : x = 0 ∨ y = 0) : rr op x y = 0 := by unfold rr; rw [if_pos h]
theorem rr_one {op x y : Int} (h0 : ¬ (x = 0 ∨ y = 0)) (h : x = 1 ∨ y = 1) : rr op x y = 1 := by unfold rr; rw [if_neg h0, if_pos h]
theorem rr_bad {op x y : Int} (h0 : ¬ (x = 0 ∨ y = 0)) (h : ¬ (x = 1 ∨ y = 1)) (e : ropE op = false) : rr op x y = 1 := by unfold rr; rw [if_neg h0, if_neg h, e]; rfl
theorem rr_num {op x y : Int} (h0 : ¬ (x = 0 ∨ y = 0)) (h : ¬ (x = 1 ∨ y = 1)) (e : ropE op = true) :
    rr op x y = 2 + 4 * word (gop op (numv x).1 (numv x).2 (numv y).1 (numv y).2).1 (gop op (numv x).1 (numv x).2 (numv y).1 (numv y).2).2 := by unfold rr; rw [if_neg h0, if_neg h, e]; rfl

set_option maxHeartbeats 6400000 in
set_option maxRecDepth 100000 in
theorem rcop_any (op a b : Int) (w : World) (ha : 0 ≤ a ∧ a ≤ 18446744073709551615) (hb : 0 ≤ b ∧ b ≤ 18446744073709551615) :
    Calls Try.prog 69 #[.int .i64 op, .int .u64 a, .int .u64 b] w fun e w' => e = .returned (.int .u64 (cop op a b)) ∧ Below w.heap.size w w' := by
  have hc : ∀ y v, (if op = 0 ∨ op = 4 then 2 else sou b) = y → rr op (sou a) y = v → Ending.returned (.int .u64 (cop op a b)) = .returned (.int .u64 v) := fun y v h k => by rw [cop_rr, h, k]
  have Hc := Lib.hid hc
  clear hc
  have Hx := Lib.hid (sou_bd a ha)
  have Hy := Lib.hid (sou_bd b hb)
  go_enter Try.func69, Try.ntmps69
  go_wp2_with fail
  refine (norm_any _ _ ha).mono ?_
  rintro e w1 ⟨rfl, hB1⟩
  have HB1 := Lib.hid hB1
  clear hB1
  go_wp2_with fail
  refine (norm_any _ _ hb).mono ?_
  rintro e w2 ⟨rfl, hB2⟩
  have HB2 := Lib.hid (bel_then HB1.out hB2)
  clear hB2 HB1 ha hb
  generalize sou a = x at *
  generalize sou b = z at *
  rcases (show op = 0 ∨ op = 4 ∨ ¬ (op = 0 ∨ op = 4) from by omega) with h | h | h
  · subst h
    go_wp2_with fail
    refine (rcof_any _ _ _).mono ?_
    rintro e w3 ⟨rfl, hB3⟩
    have HB := Lib.hid (bel_then HB2.out hB3)
    clear hB3 HB2
    have e2 : (2 : Int) + 4 * word 0 0 = 2 := by decide
    rw [e2]
    clear e2
    obtain ⟨y, hy⟩ : ∃ y : Int, y = 2 := ⟨_, rfl⟩
    have Hd := Lib.hid (fun v (h : rr 0 x y = v) => Hc.out y v hy.symm h)
    have Hz := Lib.hid (show 0 ≤ y ∧ y ≤ 18446744073709551615 by omega)
    rw [← hy]
    clear hy Hc Hy
    by_cases hx : x = 0
    · subst hx
      have Hd1 := Lib.hid (Hd.out 0 (rr_zero (.inl rfl)))
      clear Hd
      go_wp2_with fail
      go_ret
      exact ⟨Hd1.out.symm, HB.out⟩
    · have ex0 : (x == 0) = false := by simpa using hx
      by_cases hy : y = 0
      · subst hy
        have Hd1 := Lib.hid (Hd.out 0 (rr_zero (.inr rfl)))
        clear Hd hx
        go_wp2_with fail
        go_ret
        exact ⟨Hd1.out.symm, HB.out⟩
      · have ey0 : (y == 0) = false := by simpa using hy
        have hn : ¬ (x = 0 ∨ y = 0) := fun h => h.elim hx hy
        have Hn := Lib.hid hn
        clear hx hy hn
        by_cases hx : x = 1
        · subst hx
          have Hd1 := Lib.hid (Hd.out 1 (rr_one Hn.out (.inl rfl)))
          clear Hd Hn
          go_wp2_with fail
          go_ret
          exact ⟨Hd1.out.symm, HB.out⟩
        · have ex1 : (x == 1) = false := by simpa using hx
          by_cases hy : y = 1
          · subst hy
            have Hd1 := Lib.hid (Hd.out 1 (rr_one Hn.out (.inr rfl)))
            clear Hd hx Hn
            go_wp2_with fail
            go_ret
            exact ⟨Hd1.out.symm, HB.out⟩
          · have ey1 : (y == 1) = false := by simpa using hy
            have hm : ¬ (x = 1 ∨ y = 1) := fun h => h.elim hx hy
            have Hm := Lib.hid hm
            clear hx hy hm
            go_wp2_with fail
            refine (rnum_any _ _ Hx.out).mono ?_
            rintro e w4 ⟨rfl, hB4⟩
            have HB4 := Lib.hid (bel_then HB.out hB4)
            clear hB4 HB ex0 ex1 ey0 ey1
            go_wp2_with fail
            refine (rnum_any _ _ Hz.out).mono ?_
            rintro e w5 ⟨rfl, hB5⟩
            have q1 := (P2.new w4 (.int .i64 (numv x).1) (.int .i64 (numv x).2) 78).keep hB5
            have hz4 : w4.heap.size ≠ w5.heap.size := by have := hB5.size; simp at this; omega
            have q2 := q1.alloc (.cells #[.int .i64 (numv y).1, .int .i64 (numv y).2] 78)
            have q3 := P2.new w5 (.int .i64 (numv y).1) (.int .i64 (numv y).2) 78
            have HB5 := Lib.hid ((HB4.out.alloc HB4.out.size (.cells #[.int .i64 (numv x).1, .int .i64 (numv x).2] 78)).trans (hB5.mono (by have := HB4.out.size; simp; omega)))
            obtain ⟨a0, a1, a2, a3⟩ := q1
            obtain ⟨b0, b1, b2, b3⟩ := q2
            obtain ⟨d0, d1, d2, d3⟩ := q3
            clear hB5 HB4 a0 a1 a2 a3 b2 b3 d2 d3
            go_wp2_with fail
            refine (rop_any _ _ _ _ _ _).mono ?_
            rintro e w6 ⟨rfl, hB6⟩
            have HB6 := Lib.hid ((HB5.out.alloc HB5.out.size (.cells #[.int .i64 (numv y).1, .int .i64 (numv y).2] 78)).trans (hB6.mono (by have := HB5.out.size; simp; omega)))
            clear hB6 HB5 b0 b1 d0 d1
            cases he : ropE 0
            · have Hd1 := Lib.hid (Hd.out 1 (rr_bad Hn.out Hm.out he))
              clear Hd Hn Hm he
              go_wp2_with fail
              go_ret
              exact ⟨Hd1.out.symm, HB6.out.alloc HB6.out.size _⟩
            · have Hd1 := Lib.hid (Hd.out _ (rr_num Hn.out Hm.out he))
              clear Hd Hn Hm he
              go_wp2_with fail
              refine (rcof_any _ _ _).mono ?_
              rintro e w7 ⟨rfl, hB7⟩
              have HB7 := Lib.hid ((HB6.out.alloc HB6.out.size (.cells #[.int .i64 (gop 0 (numv x).1 (numv x).2 (numv y).1 (numv y).2).1, .int .i64 (gop 0 (numv x).1 (numv x).2 (numv y).1 (numv y).2).2] 78)).trans (hB7.mono (by have := HB6.out.size; simp; omega)))
              clear hB7 HB6
              go_wp2_with fail
              go_ret
              exact ⟨Hd1.out.symm, HB7.out⟩
  · subst h
    go_wp2_with fail
    refine (rcof_any _ _ _).mono ?_
    rintro e w3 ⟨rfl, hB3⟩
    have HB := Lib.hid (bel_then HB2.out hB3)
    clear hB3 HB2
    have e2 : (2 : Int) + 4 * word 0 0 = 2 := by decide
    rw [e2]
    clear e2
    obtain ⟨y, hy⟩ : ∃ y : Int, y = 2 := ⟨_, rfl⟩
    have Hd := Lib.hid (fun v (h : rr 4 x y = v) => Hc.out y v hy.symm h)
    have Hz := Lib.hid (show 0 ≤ y ∧ y ≤ 18446744073709551615 by omega)
    rw [← hy]
    clear hy Hc Hy
    by_cases hx : x = 0
    · subst hx
      have Hd1 := Lib.hid (Hd.out 0 (rr_zero (.inl rfl)))
      clear Hd
      go_wp2_with fail
      go_ret
      exact ⟨Hd1.out.symm, HB.out⟩
    · have ex0 : (x == 0) = false := by simpa using hx
      by_cases hy : y = 0
      · subst hy
        have Hd1 := Lib.hid (Hd.out 0 (rr_zero (.inr rfl)))
        clear Hd hx
        go_wp2_with fail
        go_ret
        exact ⟨Hd1.out.symm, HB.out⟩
      · have ey0 : (y == 0) = false := by simpa using hy
        have hn : ¬ (x = 0 ∨ y = 0) := fun h => h.elim hx hy
        have Hn := Lib.hid hn
        clear hx hy hn
        by_cases hx : x = 1
        · subst hx
          have Hd1 := Lib.hid (Hd.out 1 (rr_one Hn.out (.inl rfl)))
          clear Hd Hn
          go_wp2_with fail
          go_ret
          exact ⟨Hd1.out.symm, HB.out⟩
        · have ex1 : (x == 1) = false := by simpa using hx
          by_cases hy : y = 1
          · subst hy
            have Hd1 := Lib.hid (Hd.out 1 (rr_one Hn.out (.inr rfl)))
            clear Hd hx Hn
            go_wp2_with fail
            go_ret
            exact ⟨Hd1.out.symm, HB.out⟩
          · have ey1 : (y == 1) = false := by simpa using hy
            have hm : ¬ (x = 1 ∨ y = 1) := fun h => h.elim hx hy
            have Hm := Lib.hid hm
            clear hx hy hm
            go_wp2_with fail
            refine (rnum_any _ _ Hx.out).mono ?_
            rintro e w4 ⟨rfl, hB4⟩
            have HB4 := Lib.hid (bel_then HB.out hB4)
            clear hB4 HB ex0 ex1 ey0 ey1
            go_wp2_with fail
            refine (rnum_any _ _ Hz.out).mono ?_
            rintro e w5 ⟨rfl, hB5⟩
            have q1 := (P2.new w4 (.int .i64 (numv x).1) (.int .i64 (numv x).2) 78).keep hB5
            have hz4 : w4.heap.size ≠ w5.heap.size := by have := hB5.size; simp at this; omega
            have q2 := q1.alloc (.cells #[.int .i64 (numv y).1, .int .i64 (numv y).2] 78)
            have q3 := P2.new w5 (.int .i64 (numv y).1) (.int .i64 (numv y).2) 78
            have HB5 := Lib.hid ((HB4.out.alloc HB4.out.size (.cells #[.int .i64 (numv x).1, .int .i64 (numv x).2] 78)).trans (hB5.mono (by have := HB4.out.size; simp; omega)))
            obtain ⟨a0, a1, a2, a3⟩ := q1
            obtain ⟨b0, b1, b2, b3⟩ := q2
            obtain ⟨d0, d1, d2, d3⟩ := q3
            clear hB5 HB4 a0 a1 a2 a3 b2 b3 d2 d3
            go_wp2_with fail
            refine (rop_any _ _ _ _ _ _).mono ?_
            rintro e w6 ⟨rfl, hB6⟩
            have HB6 := Lib.hid ((HB5.out.alloc HB5.out.size (.cells #[.int .i64 (numv y).1, .int .i64 (numv y).2] 78)).trans (hB6.mono (by have := HB5.out.size; simp; omega)))
            clear hB6 HB5 b0 b1 d0 d1
            cases he : ropE 4
            · have Hd1 := Lib.hid (Hd.out 1 (rr_bad Hn.out Hm.out he))
              clear Hd Hn Hm he
              go_wp2_with fail
              go_ret
              exact ⟨Hd1.out.symm, HB6.out.alloc HB6.out.size _⟩
            · have Hd1 := Lib.hid (Hd.out _ (rr_num Hn.out Hm.out he))
              clear Hd Hn Hm he
              go_wp2_with fail
              refine (rcof_any _ _ _).mono ?_
              rintro e w7 ⟨rfl, hB7⟩
              have HB7 := Lib.hid ((HB6.out.alloc HB6.out.size (.cells #[.int .i64 (gop 4 (numv x).1 (numv x).2 (numv y).1 (numv y).2).1, .int .i64 (gop 4 (numv x).1 (numv x).2 (numv y).1 (numv y).2).2] 78)).trans (hB7.mono (by have := HB6.out.size; simp; omega)))
              clear hB7 HB6
              go_wp2_with fail
              go_ret
              exact ⟨Hd1.out.symm, HB7.out⟩
  · have Hd := Lib.hid (fun v (k : rr op x z = v) => Hc.out z v (if_neg h) k)
    have e0 : (op == 0) = false := by simp; omega
    have e4 : (op == 4) = false := by simp; omega
    have HB := HB2
    have Hz := Hy
    clear h Hc HB2 Hy
    obtain ⟨y, rfl⟩ : ∃ y : Int, y = z := ⟨_, rfl⟩
    by_cases hx : x = 0
    · subst hx
      have Hd1 := Lib.hid (Hd.out 0 (rr_zero (.inl rfl)))
      clear Hd
      go_wp2_with fail
      go_ret
      exact ⟨Hd1.out.symm, HB.out⟩
    · have ex0 : (x == 0) = false := by simpa using hx
      by_cases hy : y = 0
      · subst hy
        have Hd1 := Lib.hid (Hd.out 0 (rr_zero (.inr rfl)))
        clear Hd hx
        go_wp2_with fail
        go_ret
        exact ⟨Hd1.out.symm, HB.out⟩
      · have ey0 : (y == 0) = false := by simpa using hy
        have hn : ¬ (x = 0 ∨ y = 0) := fun h => h.elim hx hy
        have Hn := Lib.hid hn
        clear hx hy hn
        by_cases hx : x = 1
        · subst hx
          have Hd1 := Lib.hid (Hd.out 1 (rr_one Hn.out (.inl rfl)))
          clear Hd Hn
          go_wp2_with fail
          go_ret
          exact ⟨Hd1.out.symm, HB.out⟩
        · have ex1 : (x == 1) = false := by simpa using hx
          by_cases hy : y = 1
          · subst hy
            have Hd1 := Lib.hid (Hd.out 1 (rr_one Hn.out (.inr rfl)))
            clear Hd hx Hn
            go_wp2_with fail
            go_ret
            exact ⟨Hd1.out.symm, HB.out⟩
          · have ey1 : (y == 1) = false := by simpa using hy
            have hm : ¬ (x = 1 ∨ y = 1) := fun h => h.elim hx hy
            have Hm := Lib.hid hm
            clear hx hy hm
            go_wp2_with fail
            refine (rnum_any _ _ Hx.out).mono ?_
            rintro e w4 ⟨rfl, hB4⟩
            have HB4 := Lib.hid (bel_then HB.out hB4)
            clear hB4 HB ex0 ex1 ey0 ey1
            go_wp2_with fail
            refine (rnum_any _ _ Hz.out).mono ?_
            rintro e w5 ⟨rfl, hB5⟩
            have q1 := (P2.new w4 (.int .i64 (numv x).1) (.int .i64 (numv x).2) 78).keep hB5
            have hz4 : w4.heap.size ≠ w5.heap.size := by have := hB5.size; simp at this; omega
            have q2 := q1.alloc (.cells #[.int .i64 (numv y).1, .int .i64 (numv y).2] 78)
            have q3 := P2.new w5 (.int .i64 (numv y).1) (.int .i64 (numv y).2) 78
            have HB5 := Lib.hid ((HB4.out.alloc HB4.out.size (.cells #[.int .i64 (numv x).1, .int .i64 (numv x).2] 78)).trans (hB5.mono (by have := HB4.out.size; simp; omega)))
            obtain ⟨a0, a1, a2, a3⟩ := q1
            obtain ⟨b0, b1, b2, b3⟩ := q2
            obtain ⟨d0, d1, d2, d3⟩ := q3
            clear hB5 HB4 a0 a1 a2 a3 b2 b3 d2 d3
            go_wp2_with fail
            refine (rop_any _ _ _ _ _ _).mono ?_
            rintro e w6 ⟨rfl, hB6⟩
            have HB6 := Lib.hid ((HB5.out.alloc HB5.out.size (.cells #[.int .i64 (numv y).1, .int .i64 (numv y).2] 78)).trans (hB6.mono (by have := HB5.out.size; simp; omega)))
            clear hB6 HB5 b0 b1 d0 d1
            cases he : ropE op
            · have Hd1 := Lib.hid (Hd.out 1 (rr_bad Hn.out Hm.out he))
              clear Hd Hn Hm he
              go_wp2_with fail
              go_ret
              exact ⟨Hd1.out.symm, HB6.out.alloc HB6.out.size _⟩
            · have Hd1 := Lib.hid (Hd.out _ (rr_num Hn.out Hm.out he))
              clear Hd Hn Hm he
              go_wp2_with fail
              refine (rcof_any _ _ _).mono ?_
              rintro e w7 ⟨rfl, hB7⟩
              have HB7 := Lib.hid ((HB6.out.alloc HB6.out.size (.cells #[.int .i64 (gop op (numv x).1 (numv x).2 (numv y).1 (numv y).2).1, .int .i64 (gop op (numv x).1 (numv x).2 (numv y).1 (numv y).2).2] 78)).trans (hB7.mono (by have := HB6.out.size; simp; omega)))
              clear hB7 HB6
              go_wp2_with fail
              go_ret
              exact ⟨Hd1.out.symm, HB7.out⟩

end Go.Proofs.Ytflkelnfdoihlaa
