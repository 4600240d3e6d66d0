/-
  Codes, their references: what they read; transfer.ref, soughref16.ref and word: contracts.
-/
import Derived.Test.YtflkelnfdoihlaaLatAll
import Derived.Test.YtflkelnfdoihlaaNumEq
import Derived.Test.YtflkelnfdoihlaaConstRefOp
import Derived.Test.YtflkelnfdoihlaaGaussArith
import Derived.Test.YtflkelnfdoihlaaTake
import Derived.Deep.RegionHeld3
import Derived.Deep.CutRange
import Derived.Deep.DeepCutAuto
import Derived.Outline
import Derived.Test.YtflkelnfdoihlaaWIn
import Derived.Test.YtflkelnfdoihlaaTrod
import Derived.Test.YtflkelnfdoihlaaOpenS
import Derived.Laws.IdiomCopy
namespace Go.Proofs.Ytflkelnfdoihlaa
open Go.RowKit

theorem numF (f : Nat) (a b c d : Int) (w : World) : (Op.equalIn (f + 2) 78 (.agg #[.int .i64 a, .int .i64 b]) (.agg #[.int .i64 c, .int .i64 d])).run Try.prog w = .ok (a == c && b == d) w := by
  have u3 := Try.underlying3
  have a3 := Try.isAgg3
  have z3 := Try.sizeOf3
  rw [run_equalIn_agg w (f + 1) _ _ _ numU numS]
  simp only [Program.fieldsOf, Try.underlying78]
  go_simp
  by_cases h1 : a = c <;> by_cases h2 : b = d <;> simp [h1, h2]
theorem refU : Try.prog.underlying 80 = some (.struct (Try.prog.fieldsOf 80)) := by kernel_rfl
theorem refS : Try.prog.stoodInHeld 80 = false := by kernel_rfl
theorem ref_equal (x a b y c d : Int) (w : World) : (Op.equalIn 10000 80 (.agg #[.int .i64 x, .int .i64 a, .int .i64 b]) (.agg #[.int .i64 y, .int .i64 c, .int .i64 d])).run Try.prog w = .ok (x == y && (a == c && b == d)) w := by
  have u3 := Try.underlying3
  have a3 := Try.isAgg3
  have z3 := Try.sizeOf3
  have a8 := Try.isAgg78
  have z8 := Try.sizeOf78
  have hn := fun w => numF 9997 a b c d w
  rw [show (10000 : Nat) = 9999 + 1 from rfl, run_equalIn_agg w 9999 _ _ _ refU refS]
  simp only [Program.fieldsOf, Try.underlying80]
  go_simp
  by_cases h0 : x = y <;> by_cases h1 : a = c <;> by_cases h2 : b = d <;> simp [h0, h1, h2]
theorem ref_neq (x a b y c d : Int) (w : World) : (binOp .neq 80 (.agg #[.int .i64 x, .int .i64 a, .int .i64 b]) (.agg #[.int .i64 y, .int .i64 c, .int .i64 d])).run Try.prog w = .ok (.bool (!(x == y && (a == c && b == d)))) w := by
  rw [run_neq_struct, ref_equal]; rfl

/-- Whether a reference may be. -/
def refE (width v re im : Int) : Bool := if v = -1 then isw re im else decide (0 ≤ v) && (decide (v < width) && (re == 0 && im == 0))

set_option maxHeartbeats 1600000 in
set_option maxRecDepth 100000 in
theorem ref_any (width v re im : Int) (w : World) :
    Calls Try.prog 91 #[.int .i64 width, .agg #[.int .i64 v, .int .i64 re, .int .i64 im]] w fun e w' => e = .returned (.bool (refE width v re im)) ∧ Below w.heap.size w w' := by
  have hz := num_eql re im 0 0
  have B0 := Lib.hid ((Below.refl w.heap.size w).alloc (Nat.le_refl _) (.cells #[.int .i64 v, .int .i64 re, .int .i64 im] 80))
  by_cases h1 : v = -1
  · subst h1
    have H := Lib.hid (show refE width (-1) re im = isw re im from if_pos rfl)
    go_enter Try.func91, Try.ntmps91
    go_wp2_with fail
    refine (isw_any _ _ _).mono ?_
    rintro e w1 ⟨rfl, hB⟩
    have HB := Lib.hid (B0.out.trans (hB.mono B0.out.size))
    clear hB
    go_wp2_with fail
    go_ret
    exact ⟨ret_bool H.out.symm, HB.out⟩
  · have H := Lib.hid (show refE width v re im = (decide (0 ≤ v) && (decide (v < width) && (re == 0 && im == 0))) from if_neg h1)
    have e1 : (v == -1) = false := by simpa using h1
    clear h1
    by_cases h0 : 0 ≤ v
    · by_cases h2 : v < width
      · have H2 := Lib.hid (show refE width v re im = (re == 0 && im == 0) by rw [H.out, decide_eq_true h0, decide_eq_true h2]; rfl)
        go_enter Try.func91, Try.ntmps91
        go_wp2_with fail
        go_ret
        exact ⟨ret_bool H2.out.symm, B0.out⟩
      · have H2 := Lib.hid (show refE width v re im = false by rw [H.out, decide_eq_false h2]; simp)
        go_enter Try.func91, Try.ntmps91
        go_wp2_with fail
        go_ret
        exact ⟨ret_bool H2.out.symm, B0.out⟩
    · have H2 := Lib.hid (show refE width v re im = false by rw [H.out, decide_eq_false h0]; simp)
      go_enter Try.func91, Try.ntmps91
      go_wp2_with fail
      go_ret
      exact ⟨ret_bool H2.out.symm, B0.out⟩

set_option maxHeartbeats 1600000 in
set_option maxRecDepth 100000 in
theorem rref_any (width v re im : Int) (w : World) :
    Calls Try.prog 66 #[.int .i64 width, .agg #[.int .i64 v, .int .i64 re, .int .i64 im]] w fun e w' => e = .returned (.bool (refE width v re im)) ∧ Below w.heap.size w w' := by
  have hz := num_eql re im 0 0
  have hw := num_eql re im (wr re) (wr im)
  have K0 := Lib.hid (Bk.new w 80 [.int .i64 v, .int .i64 re, .int .i64 im])
  have B0 := Lib.hid ((Below.refl w.heap.size w).alloc (Nat.le_refl _) (.cells #[.int .i64 v, .int .i64 re, .int .i64 im] 80))
  by_cases h1 : v = -1
  · subst h1
    have H := Lib.hid (show refE width (-1) re im = (re == wr re && im == wr im) by
      unfold refE; rw [if_pos rfl]; unfold isw; rw [Bool.eq_iff_iff]; simp)
    clear hz
    go_enter Try.func66, Try.ntmps66
    go_wp2_with fail
    go_region_held3 (fun w' => w'.cell? ⟨w.heap.size, 1, none⟩ = some (.int .i64 re) ∧ w'.cell? ⟨w.heap.size, 2, none⟩ = some (.int .i64 im) ∧ Below w.heap.size w w')
      (first
        | exact ⟨K0.out.cell 1, K0.out.cell 2, B0.out.drew⟩
        | (go_split_ands; exact ⟨keepc (by assumption) hB, keepc (by assumption) hB, bel_then (by assumption) hB⟩))
      (first
        | (go_at_call 90; refine (rof_any _ _ _).mono ?_; rintro e w' ⟨rfl, hB⟩))
    all_goals
      go_split_ands
      go_wp2_with fail
      go_ret
      exact ⟨ret_bool H.out.symm, by assumption⟩
  · have H := Lib.hid (show refE width v re im = (decide (0 ≤ v) && (decide (v < width) && (re == 0 && im == 0))) from if_neg h1)
    have e1 : (v == -1) = false := by simpa using h1
    clear h1 hw
    by_cases h0 : 0 ≤ v
    · by_cases h2 : v < width
      · have H2 := Lib.hid (show refE width v re im = (re == 0 && im == 0) by rw [H.out, decide_eq_true h0, decide_eq_true h2]; rfl)
        go_enter Try.func66, Try.ntmps66
        go_wp2_with fail
        go_ret
        exact ⟨ret_bool H2.out.symm, B0.out⟩
      · have H2 := Lib.hid (show refE width v re im = false by rw [H.out, decide_eq_false h2]; simp)
        go_enter Try.func66, Try.ntmps66
        go_wp2_with fail
        go_ret
        exact ⟨ret_bool H2.out.symm, B0.out⟩
    · have H2 := Lib.hid (show refE width v re im = false by rw [H.out, decide_eq_false h0]; simp)
      go_enter Try.func66, Try.ntmps66
      go_wp2_with fail
      go_ret
      exact ⟨ret_bool H2.out.symm, B0.out⟩

/-- A reference's word. -/
def wordR (a : List Nat) (v re im : Int) : Nat := if v = -1 then (2 + 4 * word re im).toNat else wAt a v.toNat
theorem word_nat (re im : Int) : (((2 + 4 * word re im).toNat : Nat) : Int) = 2 + 4 * word re im := by have := word_bd re im; omega
theorem wordR_lt {a : List Nat} (h : ∀ z ∈ a, z < 18446744073709551616) (v re im : Int) : wordR a v re im < 18446744073709551616 := by
  unfold wordR; split
  · have := word_bd re im; omega
  · exact wAt_lt h _
/-- Whether a reference's variable is there to be read. -/
def refIn (n : Nat) (v : Int) : Prop := v = -1 ∨ (0 ≤ v ∧ v < n)

set_option maxHeartbeats 1600000 in
set_option maxRecDepth 100000 in
theorem do1_any (v re im : Int) (g : Nat) (u : Value) (a : List Nat) (w : World) (hc : w.cell? ⟨g, 0, none⟩ = some u) (hw : Ws w u a) (hv : refIn a.length v) :
    Calls Try.prog 87 #[.agg #[.int .i64 v, .int .i64 re, .int .i64 im], .pointer (some ⟨g, 0, none⟩)] w fun e w' => e = .returned (.int .u64 (wordR a v re im : Nat)) ∧ Below w.heap.size w w' := by
  have B0 := Lib.hid ((Below.refl w.heap.size w).alloc (Nat.le_refl _) (.cells #[.int .i64 v, .int .i64 re, .int .i64 im] 80))
  by_cases h1 : v = -1
  · subst h1
    have H := Lib.hid (show ((wordR a (-1) re im : Nat) : Int) = 2 + 4 * word re im by unfold wordR; rw [if_pos rfl, word_nat])
    clear hc hw hv
    go_enter Try.func87, Try.ntmps87
    go_wp2_with fail
    refine (cof_any _ _ _).mono ?_
    rintro e w1 ⟨rfl, hB⟩
    have HB := Lib.hid (B0.out.trans (hB.mono B0.out.size))
    clear hB
    go_wp2_with fail
    go_ret
    exact ⟨ret_int H.out.symm, HB.out⟩
  · have hv2 : 0 ≤ v ∧ v < a.length := by rcases hv with h | h; exact absurd h h1; exact h
    obtain ⟨n, rfl⟩ : ∃ n : Nat, v = n := ⟨v.toNat, by omega⟩
    have H := Lib.hid (show wordR a (n : Nat) re im = wAt a n by unfold wordR; rw [if_neg h1, Int.toNat_natCast])
    have e1 : ((n : Int) == -1) = false := by simp
    obtain ⟨p, c, rfl, q⟩ := ws_row hw
    obtain ⟨ad, rfl, r⟩ := q (by omega)
    have hn : (n : Int) < a.length := hv2.2
    have hcb := keepc hc ((Below.refl w.heap.size w).alloc (Nat.le_refl _) (.cells #[.int .i64 (n : Nat), .int .i64 re, .int .i64 im] 80))
    have hcell := keepc (show w.cell? (ad.add n) = some (.int .u64 (wAt a n : Nat)) from r n (by omega)) ((Below.refl w.heap.size w).alloc (Nat.le_refl _) (.cells #[.int .i64 (n : Nat), .int .i64 re, .int .i64 im] 80))
    clear hv hv2 h1 q r hw
    generalize wAt a n = z at *
    go_enter Try.func87, Try.ntmps87
    go_wp2_with fail
    go_ret
    exact ⟨ret_int (by rw [H.out]), B0.out⟩

set_option maxHeartbeats 1600000 in
set_option maxRecDepth 100000 in
theorem rword16_any (v re im : Int) (u : Value) (a : List Nat) (w : World) (hw : Ws w u a) (hv : refIn a.length v) :
    Calls Try.prog 70 #[u, .agg #[.int .i64 v, .int .i64 re, .int .i64 im]] w fun e w' => e = .returned (.int .u64 (wordR a v re im : Nat)) ∧ Below w.heap.size w w' := by
  have B0 := Lib.hid ((Below.refl w.heap.size w).alloc (Nat.le_refl _) (.cells #[.int .i64 v, .int .i64 re, .int .i64 im] 80))
  by_cases h1 : v = -1
  · subst h1
    have H := Lib.hid (show ((wordR a (-1) re im : Nat) : Int) = 2 + 4 * word re im by unfold wordR; rw [if_pos rfl, word_nat])
    obtain ⟨p, c, rfl⟩ := ws_len hw
    clear hw hv
    go_enter Try.func70, Try.ntmps70
    go_wp2_with fail
    refine (rcof_any _ _ _).mono ?_
    rintro e w1 ⟨rfl, hB⟩
    have HB := Lib.hid (B0.out.trans (hB.mono B0.out.size))
    clear hB
    go_wp2_with fail
    go_ret
    exact ⟨ret_int H.out.symm, HB.out⟩
  · have hv2 : 0 ≤ v ∧ v < a.length := by rcases hv with h | h; exact absurd h h1; exact h
    obtain ⟨n, rfl⟩ : ∃ n : Nat, v = n := ⟨v.toNat, by omega⟩
    have H := Lib.hid (show wordR a (n : Nat) re im = wAt a n by unfold wordR; rw [if_neg h1, Int.toNat_natCast])
    obtain ⟨p, c, rfl, q⟩ := ws_row hw
    obtain ⟨ad, rfl, r⟩ := q (by omega)
    have hn : (n : Int) < a.length := hv2.2
    have hcell := keepc (show w.cell? (ad.add n) = some (.int .u64 (wAt a n : Nat)) from r n (by omega)) ((Below.refl w.heap.size w).alloc (Nat.le_refl _) (.cells #[.int .i64 (n : Nat), .int .i64 re, .int .i64 im] 80))
    clear hv hv2 h1 q r hw
    generalize wAt a n = z at *
    go_enter Try.func70, Try.ntmps70
    go_wp2_with fail
    go_ret
    exact ⟨ret_int (by rw [H.out]), B0.out⟩

end Go.Proofs.Ytflkelnfdoihlaa

/-
  Lists of codes: transfer.codes: contract.
-/
namespace Go.Proofs.Ytflkelnfdoihlaa
open Go.RowKit

structure CodeT where
  v : Int
  o : Int
  av : Int
  ar : Int
  ai : Int
  bv : Int
  br : Int
  bi : Int
def ccells (c : CodeT) : List Value := [.int .i64 c.v, .int .i64 c.o, .int .i64 c.av, .int .i64 c.ar, .int .i64 c.ai, .int .i64 c.bv, .int .i64 c.br, .int .i64 c.bi]
def cdAt (L : List CodeT) (j : Nat) : CodeT := L[j]?.getD ⟨0, 0, 0, 0, 0, 0, 0, 0⟩
/-- A slice of codes that reads as a list. -/
def Codes (w : World) (v : Value) (L : List CodeT) : Prop :=
  ∃ o c, v = .slice o L.length c ∧ (0 < L.length → ∃ b off, o = some ⟨b, off, none⟩ ∧ ∀ j, j < L.length → ∀ m u, (ccells (cdAt L j))[m]? = some u → w.cell? ⟨b, off + j * 8 + m, none⟩ = some u)
theorem Codes.below {w w' : World} {v : Value} {L : List CodeT} (h : Codes w v L) (k : Below w.heap.size w w') : Codes w' v L := by
  obtain ⟨o, c, rfl, hc⟩ := h
  refine ⟨o, c, rfl, fun h0 => ?_⟩
  obtain ⟨b, off, rfl, hd⟩ := hc h0
  exact ⟨b, off, rfl, fun j hj m u hm => keepc (hd j hj m u hm) k⟩
theorem Codes.len {w : World} {v : Value} {L : List CodeT} (h : Codes w v L) : ∃ o c, v = .slice o L.length c := by
  obtain ⟨o, c, rfl, _⟩ := h
  exact ⟨_, _, rfl⟩
/-- Whether a code may be. -/
def codeE (width : Int) (c : CodeT) : Bool :=
  decide (0 ≤ c.v) && (decide (c.v < width) && (decide (-1 ≤ c.o) && (decide (c.o ≤ 4) &&
    (if c.o = -1 then (c.av == 0 && (c.ar == 0 && c.ai == 0)) && (c.bv == 0 && (c.br == 0 && c.bi == 0)) else refE width c.av c.ar c.ai && refE width c.bv c.br c.bi))))
theorem ref_zero {width : Int} (h : 0 < width) : refE width 0 0 0 = true := by
  unfold refE
  rw [if_neg (by decide), decide_eq_true h]
  rfl

set_option maxHeartbeats 6400000 in
set_option maxRecDepth 100000 in
theorem codes_any (width : Int) (v : Value) (L : List CodeT) (w : World) (h : Codes w v L) (hn : L.length ≤ 1000000) :
    Calls Try.prog 67 #[.int .i64 width, v] w fun e w' => e = .returned (.bool (L.all (codeE width))) ∧ Below w.heap.size w w' := by
  obtain ⟨o, c, rfl, hc⟩ := h
  have HC := Lib.hid hc
  have B0 := Lib.hid (Below.refl w.heap.size w)
  have H1 := Lib.hid (show (∀ j, j < L.length → codeE width (cdAt L j) = true) → L.all (codeE width) = true from fun h => by
    rw [List.all_eq_true]
    intro z hz
    obtain ⟨i, hi, rfl⟩ := List.getElem_of_mem hz
    have := h i hi
    unfold cdAt at this
    rwa [List.getElem?_eq_getElem hi] at this)
  have H0 := Lib.hid (show ∀ j, j < L.length → codeE width (cdAt L j) = false → L.all (codeE width) = false from fun j hj h => by
    rw [Bool.eq_false_iff]
    intro h2
    rw [List.all_eq_true] at h2
    have := h2 _ (List.getElem_mem hj)
    unfold cdAt at h
    rw [List.getElem?_eq_getElem hj] at h
    rw [show (some L[j]).getD (⟨0, 0, 0, 0, 0, 0, 0, 0⟩ : CodeT) = L[j] from rfl] at h
    rw [h] at this; cases this)
  clear hc
  go_enter Try.func67, Try.ntmps67
  go_wp2_with fail
  go_loopw [9] (fun i wr => ∃ k : Nat, k ≤ L.length ∧ i = .int .i64 k ∧ Hid (∀ i, i < k → codeE width (cdAt L i) = true) ∧ Below w.heap.size w wr)
    (fun i _ => L.length - (intOf i).toNat)
  case atStart => exact ⟨0, Nat.zero_le _, rfl, Lib.hid (fun i h => by omega), B0.out⟩
  case round =>
    obtain ⟨k, hk, rfl, HA, hB⟩ := hrel
    have HB := Lib.hid hB
    clear hB
    by_cases hlt : k < L.length
    · obtain ⟨b, off, rfl, hd⟩ := HC.out (by omega)
      have hd := hd k hlt
      have H0k := Lib.hid (H0.out k hlt)
      have HS := Lib.hid (show codeE width (cdAt L k) = true → ∀ i, i < k + 1 → codeE width (cdAt L i) = true from fun e i hi => by
        rcases (show i < k ∨ i = k by omega) with h | rfl
        · exact HA.out i h
        · exact e)
      generalize cdAt L k = cd at *
      obtain ⟨cv, co, av, ar, ai, bv, br, bi⟩ := cd
      have e0 := keepc (hd 0 _ rfl) HB.out
      have e1 := keepc (hd 1 _ rfl) HB.out
      have e2 := keepc (hd 2 _ rfl) HB.out
      have e3 := keepc (hd 3 _ rfl) HB.out
      have e4 := keepc (hd 4 _ rfl) HB.out
      have e5 := keepc (hd 5 _ rfl) HB.out
      have e6 := keepc (hd 6 _ rfl) HB.out
      have e7 := keepc (hd 7 _ rfl) HB.out
      simp only [Nat.add_zero] at e0
      clear hd
      have HB1 := Lib.hid (HB.out.alloc HB.out.size (.cells #[.int .i64 cv, .int .i64 co, .int .i64 av, .int .i64 ar, .int .i64 ai, .int .i64 bv, .int .i64 br, .int .i64 bi] 82))
      by_cases d1 : cv < 0
      · have HV := Lib.hid (H0k.out (by unfold codeE; rw [decide_eq_false (show ¬ 0 ≤ cv by omega)]; rfl))
        go_wp2_with fail
        go_ret
        exact ⟨ret_bool HV.out.symm, HB1.out⟩
      by_cases d2 : width ≤ cv
      · have HV := Lib.hid (H0k.out (by unfold codeE; rw [decide_eq_false (show ¬ cv < width by omega)]; simp))
        go_wp2_with fail
        go_ret
        exact ⟨ret_bool HV.out.symm, HB1.out⟩
      by_cases d3 : co < -1
      · have HV := Lib.hid (H0k.out (by unfold codeE; rw [decide_eq_false (show ¬ -1 ≤ co by omega)]; simp))
        go_wp2_with fail
        go_ret
        exact ⟨ret_bool HV.out.symm, HB1.out⟩
      by_cases d4 : 4 < co
      · have HV := Lib.hid (H0k.out (by unfold codeE; rw [decide_eq_false (show ¬ co ≤ 4 by omega)]; simp))
        go_wp2_with fail
        go_ret
        exact ⟨ret_bool HV.out.symm, HB1.out⟩
      have q1 : 0 ≤ cv := by omega
      have q2 : cv < width := by omega
      have q3 : -1 ≤ co := by omega
      have q4 : co ≤ 4 := by omega
      clear d1 d2 d3 d4
      have HG := Lib.hid (show codeE width ⟨cv, co, av, ar, ai, bv, br, bi⟩ = (if co = -1 then (av == 0 && (ar == 0 && ai == 0)) && (bv == 0 && (br == 0 && bi == 0)) else refE width av ar ai && refE width bv br bi) by
        unfold codeE; rw [decide_eq_true q1, decide_eq_true q2, decide_eq_true q3, decide_eq_true q4]; simp only [Bool.true_and])
      have hA := ref_neq av ar ai 0 0 0
      have hB := ref_neq bv br bi 0 0 0
      by_cases d5 : co = -1
      · subst d5
        have HG2 := Lib.hid (show codeE width ⟨cv, -1, av, ar, ai, bv, br, bi⟩ = ((av == 0 && (ar == 0 && ai == 0)) && (bv == 0 && (br == 0 && bi == 0))) by rw [HG.out, if_pos rfl])
        cases hza : (av == 0 && (ar == 0 && ai == 0)) with
        | false =>
          have HV := Lib.hid (H0k.out (by rw [HG2.out, hza]; rfl))
          rw [hza] at hA
          clear hB hza
          go_wp2_with fail
          go_ret
          exact ⟨ret_bool HV.out.symm, HB1.out⟩
        | true =>
          cases hzb : (bv == 0 && (br == 0 && bi == 0)) with
          | false =>
            have HV := Lib.hid (H0k.out (by rw [HG2.out, hzb, Bool.and_false]))
            rw [hza] at hA
            rw [hzb] at hB
            clear hza hzb
            go_wp2_with fail
            go_ret
            exact ⟨ret_bool HV.out.symm, HB1.out⟩
          | true =>
            have HS2 := Lib.hid (HS.out (by rw [HG2.out, hza, hzb]; rfl))
            simp only [Bool.and_eq_true, beq_iff_eq] at hza hzb
            obtain ⟨rfl, rfl, rfl⟩ := hza
            obtain ⟨rfl, rfl, rfl⟩ := hzb
            have HZ := Lib.hid (ref_zero (width := width) (by omega))
            clear hA hB
            go_wp2_with fail
            refine (ref_any _ _ _ _ _).mono ?_
            rintro e w2 ⟨rfl, hB2⟩
            rw [HZ.out]
            have HB2 := Lib.hid (HB1.out.trans (hB2.mono HB1.out.size))
            have K2 := Lib.hid ((Bk.new wr 82 [.int .i64 cv, .int .i64 (-1), .int .i64 0, .int .i64 0, .int .i64 0, .int .i64 0, .int .i64 0, .int .i64 0]).below hB2)
            have c5 := K2.out.cell 5
            have c6 := K2.out.cell 6
            have c7 := K2.out.cell 7
            simp only [List.getElem?_cons_succ, List.getElem?_cons_zero] at c5 c6 c7
            clear hB2
            go_wp2_with fail
            refine (ref_any _ _ _ _ _).mono ?_
            rintro e w3 ⟨rfl, hB3⟩
            rw [HZ.out]
            have HB3 := Lib.hid (HB2.out.trans (hB3.mono HB2.out.size))
            clear hB3
            go_wp2_with fail
            go_roundw
            case rel => exact ⟨k + 1, by omega, by go_num, HS2, HB3.out⟩
            case measure => simp [intOf]; omega
      · have hne : (co == -1) = false := by simpa using d5
        have HG2 := Lib.hid (show codeE width ⟨cv, co, av, ar, ai, bv, br, bi⟩ = (refE width av ar ai && refE width bv br bi) by rw [HG.out, if_neg d5])
        clear hA hB d5
        go_wp2_with fail
        refine (ref_any _ _ _ _ _).mono ?_
        rintro e w2 ⟨rfl, hB2⟩
        have HB2 := Lib.hid (HB1.out.trans (hB2.mono HB1.out.size))
        have K2 := Lib.hid ((Bk.new wr 82 [.int .i64 cv, .int .i64 co, .int .i64 av, .int .i64 ar, .int .i64 ai, .int .i64 bv, .int .i64 br, .int .i64 bi]).below hB2)
        have c5 := K2.out.cell 5
        have c6 := K2.out.cell 6
        have c7 := K2.out.cell 7
        simp only [List.getElem?_cons_succ, List.getElem?_cons_zero] at c5 c6 c7
        clear hB2
        cases hra : refE width av ar ai with
        | false =>
          have HV := Lib.hid (H0k.out (by rw [HG2.out, hra]; rfl))
          clear hra
          go_wp2_with fail
          go_ret
          exact ⟨ret_bool HV.out.symm, HB2.out⟩
        | true =>
          have HRA := Lib.hid hra
          clear hra
          go_wp2_with fail
          refine (ref_any _ _ _ _ _).mono ?_
          rintro e w3 ⟨rfl, hB3⟩
          have HB3 := Lib.hid (HB2.out.trans (hB3.mono HB2.out.size))
          clear hB3
          cases hrb : refE width bv br bi with
          | false =>
            have HV := Lib.hid (H0k.out (by rw [HG2.out, hrb, Bool.and_false]))
            clear hrb
            go_wp2_with fail
            go_ret
            exact ⟨ret_bool HV.out.symm, HB3.out⟩
          | true =>
            have HS2 := Lib.hid (HS.out (by rw [HG2.out, HRA.out, hrb]; rfl))
            clear hrb
            go_wp2_with fail
            go_roundw
            case rel => exact ⟨k + 1, by omega, by go_num, HS2, HB3.out⟩
            case measure => simp [intOf]; omega
    · obtain rfl : k = L.length := by omega
      have HV := Lib.hid (H1.out HA.out)
      go_wp2_with fail
      go_ret
      exact ⟨ret_bool HV.out.symm, HB.out⟩

end Go.Proofs.Ytflkelnfdoihlaa

/-
  transfer.Check, soughref16.Check: contracts.
-/
namespace Go.Proofs.Ytflkelnfdoihlaa
open Go.RowKit

/-- What is wrong with a Trans. -/
def checkT (what width : Int) (g k : List Nat) (L : List CodeT) : Int :=
  if isL what width = true then
    (if what = 3 then (if g.length = 0 ∧ k.length = 0 ∧ L.all (codeE width) = true then 0 else 2)
    else (if fitsE g width = true ∧ fitsE k width = true ∧ L.length = 0 then 0 else 2))
  else 10
theorem bottom_is (what width : Int) : valueE what width (bottomE what width) = isL what width := by
  cases h : isL what width with
  | true => exact bottom_value h
  | false => unfold valueE; rw [h]; rfl
section
variable {what width : Int} {g k : List Nat} {L : List CodeT}
theorem ct_none (h : isL what width = false) : checkT what width g k L = 10 := by unfold checkT; rw [h, if_neg (by decide)]
theorem ct_flat (h : isL 3 width = true) : checkT 3 width g k L = if g.length = 0 ∧ k.length = 0 ∧ L.all (codeE width) = true then 0 else 2 := by
  unfold checkT; rw [if_pos h, if_pos rfl]
theorem ct_set (h : isL what width = true) (h3 : what ≠ 3) : checkT what width g k L = if fitsE g width = true ∧ fitsE k width = true ∧ L.length = 0 then 0 else 2 := by
  unfold checkT; rw [if_pos h, if_neg h3]
end

set_option maxHeartbeats 6400000 in
set_option maxRecDepth 100000 in
theorem tcheck_any (what width : Int) (vg vk vl : Value) (g k : List Nat) (L : List CodeT) (w : World) (h1 : Ws w vg g) (h2 : Ws w vk k) (h3 : Codes w vl L) (b1 : g.length ≤ 1000) (b2 : k.length ≤ 1000) (b3 : L.length ≤ 1000000) :
    Calls Try.prog 35 #[.int .i64 what, .int .i64 width, .agg #[vg, vk, vl]] w fun e w' => e = .returned (.int .i64 (checkT what width g k L)) ∧ Below w.heap.size w w' := by
  have HG := Lib.hid h1
  have HK := Lib.hid h2
  have HL := Lib.hid h3
  obtain ⟨pg, cg, rfl⟩ := ws_len h1
  obtain ⟨pk, ck, rfl⟩ := ws_len h2
  obtain ⟨pl, cl, rfl⟩ := h3.len
  have B0 := Lib.hid ((Below.refl w.heap.size w).alloc (Nat.le_refl _) (.cells #[.slice pg g.length cg, .slice pk k.length ck, .slice pl L.length cl] 45))
  have K0 := Lib.hid (Bk.new w 45 [.slice pg g.length cg, .slice pk k.length ck, .slice pl L.length cl])
  have HBL := Lib.hid (show (bottomE what width).length ≤ 100000 by rw [bottom_len]; have := wordsN_le what width; omega)
  clear h1 h2 h3
  go_enter Try.func35, Try.ntmps35
  go_wp2_with fail
  refine (bottom_any _ _ _).mono ?_
  rintro e w1 ⟨u, rfl, hW, hB⟩
  have HW := Lib.hid hW
  have K1 := Lib.hid (K0.out.below hB)
  have B1 := Lib.hid (B0.out.trans (hB.mono B0.out.size))
  obtain ⟨p, c, rfl⟩ := ws_len hW
  clear hW hB
  go_wp2_with fail
  refine (lval_any _ _ _ (bottomE what width) _ HW.out HBL.out).mono ?_
  rintro e w2 ⟨rfl, hB⟩
  rw [bottom_is]
  have K2 := Lib.hid (K1.out.below hB)
  have B2 := Lib.hid (B1.out.trans (hB.mono B1.out.size))
  have HG2 := Lib.hid (HG.out.below B2.out)
  have HK2 := Lib.hid (HK.out.below B2.out)
  have HL2 := Lib.hid (HL.out.below B2.out)
  have c0 := K2.out.cell 0
  have c1 := K2.out.cell 1
  have c2 := K2.out.cell 2
  simp only [List.getElem?_cons_succ, List.getElem?_cons_zero] at c0 c1 c2
  clear hB
  cases hL : isL what width with
  | false =>
    have H := Lib.hid (ct_none (g := g) (k := k) (L := L) hL)
    clear hL
    go_wp2_with fail
    go_ret
    exact ⟨ret_int H.out.symm, B2.out⟩
  | true =>
    by_cases h3 : what = 3
    · subst h3
      have H := Lib.hid (ct_flat (g := g) (k := k) (L := L) hL)
      clear hL
      by_cases hg : 0 < g.length
      · have HV := Lib.hid (show checkT 3 width g k L = 2 by rw [H.out, if_neg (by omega)])
        go_wp2_with fail
        go_ret
        exact ⟨ret_int HV.out.symm, B2.out⟩
      · by_cases hk : 0 < k.length
        · have HV := Lib.hid (show checkT 3 width g k L = 2 by rw [H.out, if_neg (by omega)])
          go_wp2_with fail
          go_ret
          exact ⟨ret_int HV.out.symm, B2.out⟩
        · have HV := Lib.hid (show checkT 3 width g k L = if L.all (codeE width) = true then 0 else 2 by
            rw [H.out]
            by_cases ha : L.all (codeE width) = true
            · rw [if_pos ⟨by omega, by omega, ha⟩, if_pos ha]
            · rw [if_neg (fun h => ha h.2.2), if_neg ha])
          go_wp2_with fail
          refine (codes_any width _ L _ HL2.out b3).mono ?_
          rintro e w3 ⟨rfl, hB⟩
          have B3 := Lib.hid (B2.out.trans (hB.mono B2.out.size))
          clear hB
          cases ha : L.all (codeE width) with
          | true =>
            have HV2 := Lib.hid (show checkT 3 width g k L = 0 by rw [HV.out, ha, if_pos rfl])
            clear ha
            go_wp2_with fail
            go_ret
            exact ⟨ret_int HV2.out.symm, B3.out⟩
          | false =>
            have HV2 := Lib.hid (show checkT 3 width g k L = 2 by rw [HV.out, ha, if_neg (by decide)])
            clear ha
            go_wp2_with fail
            go_ret
            exact ⟨ret_int HV2.out.symm, B3.out⟩
    · have e3 : (what == 3) = false := by simpa using h3
      have H := Lib.hid (ct_set (g := g) (k := k) (L := L) hL h3)
      clear hL h3
      go_wp2_with fail
      refine (fits_any _ _ _ _ HG2.out b1).mono ?_
      rintro e w3 ⟨rfl, hB⟩
      have K3 := Lib.hid (K2.out.below hB)
      have B3 := Lib.hid (B2.out.trans (hB.mono B2.out.size))
      have HK3 := Lib.hid (HK2.out.below hB)
      clear c0 c1 c2
      have c0 := K3.out.cell 0
      have c1 := K3.out.cell 1
      have c2 := K3.out.cell 2
      simp only [List.getElem?_cons_succ, List.getElem?_cons_zero] at c0 c1 c2
      clear hB
      cases hfg : fitsE g width with
      | false =>
        have HV := Lib.hid (show checkT what width g k L = 2 by rw [H.out, hfg, if_neg (by simp)])
        clear hfg
        go_wp2_with fail
        go_ret
        exact ⟨ret_int HV.out.symm, B3.out⟩
      | true =>
        have HFG := Lib.hid hfg
        clear hfg
        go_wp2_with fail
        refine (fits_any _ _ _ _ HK3.out b2).mono ?_
        rintro e w4 ⟨rfl, hB⟩
        have K4 := Lib.hid (K3.out.below hB)
        have B4 := Lib.hid (B3.out.trans (hB.mono B3.out.size))
        clear c0 c1 c2
        have c2 := K4.out.cell 2
        simp only [List.getElem?_cons_succ, List.getElem?_cons_zero] at c2
        clear hB
        cases hfk : fitsE k width with
        | false =>
          have HV := Lib.hid (show checkT what width g k L = 2 by rw [H.out, hfk, if_neg (by simp)])
          clear hfk
          go_wp2_with fail
          go_ret
          exact ⟨ret_int HV.out.symm, B4.out⟩
        | true =>
          have HFK := Lib.hid hfk
          clear hfk
          by_cases hl : 0 < L.length
          · have HV := Lib.hid (show checkT what width g k L = 2 by rw [H.out, if_neg (fun h => by omega)])
            go_wp2_with fail
            go_ret
            exact ⟨ret_int HV.out.symm, B4.out⟩
          · have HV := Lib.hid (show checkT what width g k L = 0 by rw [H.out, if_pos ⟨HFG.out, HFK.out, by omega⟩])
            go_wp2_with fail
            go_ret
            exact ⟨ret_int HV.out.symm, B4.out⟩

end Go.Proofs.Ytflkelnfdoihlaa

/-
  soughref16.Check: its contract.
-/
namespace Go.Proofs.Ytflkelnfdoihlaa
open Go.RowKit

set_option maxHeartbeats 12800000 in
set_option maxRecDepth 100000 in
theorem rtcheck_any (what width : Int) (vg vk vl : Value) (g k : List Nat) (L : List CodeT) (w : World) (h1 : Ws w vg g) (h2 : Ws w vk k) (h3 : Codes w vl L) (b1 : g.length ≤ 1000) (b2 : k.length ≤ 1000) (b3 : L.length ≤ 1000000) :
    Calls Try.prog 34 #[.int .i64 what, .int .i64 width, .agg #[vg, vk, vl]] w fun e w' => e = .returned (.int .i64 (checkT what width g k L)) ∧ Below w.heap.size w w' := by
  have HG := Lib.hid h1
  have HK := Lib.hid h2
  obtain ⟨pg, cg, rfl⟩ := ws_len h1
  obtain ⟨pk, ck, rfl⟩ := ws_len h2
  obtain ⟨pl, cl, rfl, hc⟩ := h3
  have B0 := Lib.hid ((Below.refl w.heap.size w).alloc (Nat.le_refl _) (.cells #[.slice pg g.length cg, .slice pk k.length ck, .slice pl L.length cl] 45))
  have K0 := Lib.hid (Bk.new w 45 [.slice pg g.length cg, .slice pk k.length ck, .slice pl L.length cl])
  have HCs := Lib.hid hc
  clear h1 h2 hc
  go_enter Try.func34, Try.ntmps34
  go_wp2_with fail
  refine (rlis_any _ _ _).mono ?_
  rintro e w1 ⟨rfl, hww⟩
  obtain ⟨W, hW0⟩ : ∃ W, W = w1 := ⟨_, rfl⟩
  rw [← hww] at B0 K0
  rw [← hW0] at B0 K0 ⊢
  clear hww hW0
  have HG2 := Lib.hid (HG.out.below B0.out)
  have HK2 := Lib.hid (HK.out.below B0.out)
  have c0 := K0.out.cell 0
  have c1 := K0.out.cell 1
  have c2 := K0.out.cell 2
  simp only [List.getElem?_cons_succ, List.getElem?_cons_zero] at c0 c1 c2
  cases hL : isL what width with
  | false =>
    have H := Lib.hid (ct_none (g := g) (k := k) (L := L) hL)
    clear hL
    go_wp2_with fail
    go_ret
    exact ⟨ret_int H.out.symm, B0.out⟩
  | true =>
    by_cases h3 : what = 3
    · subst h3
      have H := Lib.hid (ct_flat (g := g) (k := k) (L := L) hL)
      clear hL
      by_cases hg : 0 < g.length
      · have HV := Lib.hid (show checkT 3 width g k L = 2 by rw [H.out, if_neg (by omega)])
        go_wp2_with fail
        go_ret
        exact ⟨ret_int HV.out.symm, B0.out⟩
      · by_cases hk : 0 < k.length
        · have HV := Lib.hid (show checkT 3 width g k L = 2 by rw [H.out, if_neg (by omega)])
          go_wp2_with fail
          go_ret
          exact ⟨ret_int HV.out.symm, B0.out⟩
        · have HT := Lib.hid (show checkT 3 width g k L = if L.all (codeE width) = true then 0 else 2 by
            rw [H.out]
            by_cases ha : L.all (codeE width) = true
            · rw [if_pos ⟨by omega, by omega, ha⟩, if_pos ha]
            · rw [if_neg (fun h => ha h.2.2), if_neg ha])
          have H1 := Lib.hid (show (∀ j, j < L.length → codeE width (cdAt L j) = true) → checkT 3 width g k L = 0 from fun h => by
            rw [HT.out, if_pos]
            rw [List.all_eq_true]
            intro z hz
            obtain ⟨i, hi, rfl⟩ := List.getElem_of_mem hz
            have := h i hi
            unfold cdAt at this
            rwa [List.getElem?_eq_getElem hi] at this)
          have H0 := Lib.hid (show ∀ j, j < L.length → codeE width (cdAt L j) = false → checkT 3 width g k L = 2 from fun j hj h => by
            rw [HT.out, if_neg]
            intro h2
            rw [List.all_eq_true] at h2
            have := h2 _ (List.getElem_mem hj)
            unfold cdAt at h
            rw [List.getElem?_eq_getElem hj] at h
            rw [show (some L[j]).getD (⟨0, 0, 0, 0, 0, 0, 0, 0⟩ : CodeT) = L[j] from rfl] at h
            rw [h] at this; cases this)
          have HC := HCs
          clear HCs H
          go_wp2_with fail
          go_loopw [46] (fun i wr => ∃ k : Nat, k ≤ L.length ∧ i = .int .i64 k ∧ Hid (∀ i, i < k → codeE width (cdAt L i) = true) ∧ Below w.heap.size w wr)
            (fun i _ => L.length - (intOf i).toNat)
          case atStart => exact ⟨0, Nat.zero_le _, rfl, Lib.hid (fun i h => by omega), B0.out⟩
          case round =>
            obtain ⟨k, hk, rfl, HA, hB⟩ := hrel
            have HB := Lib.hid hB
            clear hB
            by_cases hlt : k < L.length
            · obtain ⟨b, off, rfl, hd⟩ := HC.out (by omega)
              have hd := hd k hlt
              have H0k := Lib.hid (H0.out k hlt)
              have HS := Lib.hid (show codeE width (cdAt L k) = true → ∀ i, i < k + 1 → codeE width (cdAt L i) = true from fun e i hi => by
                rcases (show i < k ∨ i = k by omega) with h | rfl
                · exact HA.out i h
                · exact e)
              generalize cdAt L k = cd at *
              obtain ⟨cv, co, av, ar, ai, bv, br, bi⟩ := cd
              have e0 := keepc (hd 0 _ rfl) HB.out
              have e1 := keepc (hd 1 _ rfl) HB.out
              have e2 := keepc (hd 2 _ rfl) HB.out
              have e3 := keepc (hd 3 _ rfl) HB.out
              have e4 := keepc (hd 4 _ rfl) HB.out
              have e5 := keepc (hd 5 _ rfl) HB.out
              have e6 := keepc (hd 6 _ rfl) HB.out
              have e7 := keepc (hd 7 _ rfl) HB.out
              simp only [Nat.add_zero] at e0
              clear hd
              have HB1 := Lib.hid (HB.out.alloc HB.out.size (.cells #[.int .i64 cv, .int .i64 co, .int .i64 av, .int .i64 ar, .int .i64 ai, .int .i64 bv, .int .i64 br, .int .i64 bi] 82))
              by_cases d1 : cv < 0
              · have HV := Lib.hid (H0k.out (by unfold codeE; rw [decide_eq_false (show ¬ 0 ≤ cv by omega)]; rfl))
                go_wp2_with fail
                go_ret
                exact ⟨ret_int HV.out.symm, HB1.out⟩
              by_cases d2 : width ≤ cv
              · have HV := Lib.hid (H0k.out (by unfold codeE; rw [decide_eq_false (show ¬ cv < width by omega)]; simp))
                go_wp2_with fail
                go_ret
                exact ⟨ret_int HV.out.symm, HB1.out⟩
              by_cases d3 : co < -1
              · have HV := Lib.hid (H0k.out (by unfold codeE; rw [decide_eq_false (show ¬ -1 ≤ co by omega)]; simp))
                go_wp2_with fail
                go_ret
                exact ⟨ret_int HV.out.symm, HB1.out⟩
              by_cases d4 : 4 < co
              · have HV := Lib.hid (H0k.out (by unfold codeE; rw [decide_eq_false (show ¬ co ≤ 4 by omega)]; simp))
                go_wp2_with fail
                go_ret
                exact ⟨ret_int HV.out.symm, HB1.out⟩
              have q1 : 0 ≤ cv := by omega
              have q2 : cv < width := by omega
              have q3 : -1 ≤ co := by omega
              have q4 : co ≤ 4 := by omega
              clear d1 d2 d3 d4
              have HG := Lib.hid (show codeE width ⟨cv, co, av, ar, ai, bv, br, bi⟩ = (if co = -1 then (av == 0 && (ar == 0 && ai == 0)) && (bv == 0 && (br == 0 && bi == 0)) else refE width av ar ai && refE width bv br bi) by
                unfold codeE; rw [decide_eq_true q1, decide_eq_true q2, decide_eq_true q3, decide_eq_true q4]; simp only [Bool.true_and])
              have hA := ref_neq av ar ai 0 0 0
              have hB := ref_neq bv br bi 0 0 0
              by_cases d5 : co = -1
              · subst d5
                have HG2 := Lib.hid (show codeE width ⟨cv, -1, av, ar, ai, bv, br, bi⟩ = ((av == 0 && (ar == 0 && ai == 0)) && (bv == 0 && (br == 0 && bi == 0))) by rw [HG.out, if_pos rfl])
                cases hza : (av == 0 && (ar == 0 && ai == 0)) with
                | false =>
                  have HV := Lib.hid (H0k.out (by rw [HG2.out, hza]; rfl))
                  rw [hza] at hA
                  clear hB hza
                  go_wp2_with fail
                  go_ret
                  exact ⟨ret_int HV.out.symm, HB1.out⟩
                | true =>
                  cases hzb : (bv == 0 && (br == 0 && bi == 0)) with
                  | false =>
                    have HV := Lib.hid (H0k.out (by rw [HG2.out, hzb, Bool.and_false]))
                    rw [hza] at hA
                    rw [hzb] at hB
                    clear hza hzb
                    go_wp2_with fail
                    go_ret
                    exact ⟨ret_int HV.out.symm, HB1.out⟩
                  | true =>
                    have HS2 := Lib.hid (HS.out (by rw [HG2.out, hza, hzb]; rfl))
                    rw [hza] at hA
                    rw [hzb] at hB
                    clear hza hzb
                    go_wp2_with fail
                    go_roundw
                    case rel => exact ⟨k + 1, by omega, by go_num, HS2, HB1.out⟩
                    case measure => simp [intOf]; omega
              · have hne : (co == -1) = false := by simpa using d5
                have hge : 0 ≤ co := by omega
                have HG2 := Lib.hid (show codeE width ⟨cv, co, av, ar, ai, bv, br, bi⟩ = (refE width av ar ai && refE width bv br bi) by rw [HG.out, if_neg d5])
                clear hA hB d5
                go_wp2_with fail
                refine (rref_any _ _ _ _ _).mono ?_
                rintro e w2 ⟨rfl, hB2⟩
                have HB2 := Lib.hid (HB1.out.trans (hB2.mono HB1.out.size))
                have K2 := Lib.hid ((Bk.new wr 82 [.int .i64 cv, .int .i64 co, .int .i64 av, .int .i64 ar, .int .i64 ai, .int .i64 bv, .int .i64 br, .int .i64 bi]).below hB2)
                have c5 := K2.out.cell 5
                have c6 := K2.out.cell 6
                have c7 := K2.out.cell 7
                simp only [List.getElem?_cons_succ, List.getElem?_cons_zero] at c5 c6 c7
                clear hB2
                cases hra : refE width av ar ai with
                | false =>
                  have HV := Lib.hid (H0k.out (by rw [HG2.out, hra]; rfl))
                  clear hra
                  go_wp2_with fail
                  go_ret
                  exact ⟨ret_int HV.out.symm, HB2.out⟩
                | true =>
                  have HRA := Lib.hid hra
                  clear hra
                  go_wp2_with fail
                  refine (rref_any _ _ _ _ _).mono ?_
                  rintro e w3 ⟨rfl, hB3⟩
                  have HB3 := Lib.hid (HB2.out.trans (hB3.mono HB2.out.size))
                  clear hB3
                  cases hrb : refE width bv br bi with
                  | false =>
                    have HV := Lib.hid (H0k.out (by rw [HG2.out, hrb, Bool.and_false]))
                    clear hrb
                    go_wp2_with fail
                    go_ret
                    exact ⟨ret_int HV.out.symm, HB3.out⟩
                  | true =>
                    have HS2 := Lib.hid (HS.out (by rw [HG2.out, HRA.out, hrb]; rfl))
                    clear hrb
                    go_wp2_with fail
                    go_roundw
                    case rel => exact ⟨k + 1, by omega, by go_num, HS2, HB3.out⟩
                    case measure => simp [intOf]; omega
            · obtain rfl : k = L.length := by omega
              have HV := Lib.hid (H1.out HA.out)
              go_wp2_with fail
              go_ret
              exact ⟨ret_int HV.out.symm, HB.out⟩
    · have e3 : (what == 3) = false := by simpa using h3
      have hne3 : (what != 3) = true := by simpa using h3
      have H := Lib.hid (ct_set (g := g) (k := k) (L := L) hL h3)
      clear hL h3
      by_cases hl : 0 < L.length
      · have HV := Lib.hid (show checkT what width g k L = 2 by rw [H.out, if_neg (fun h => by omega)])
        go_wp2_with fail
        go_ret
        exact ⟨ret_int HV.out.symm, B0.out⟩
      go_wp2_with fail
      refine (rfits_any _ _ _ _ HG2.out b1).mono ?_
      rintro e w3 ⟨rfl, hB⟩
      have K3 := Lib.hid (K0.out.below hB)
      have B3 := Lib.hid (B0.out.trans (hB.mono B0.out.size))
      have HK3 := Lib.hid (HK2.out.below hB)
      clear c0 c1 c2
      have c1 := K3.out.cell 1
      simp only [List.getElem?_cons_succ, List.getElem?_cons_zero] at c1
      clear hB
      cases hfg : fitsE g width with
      | false =>
        have HV := Lib.hid (show checkT what width g k L = 2 by rw [H.out, hfg, if_neg (by simp)])
        clear hfg
        go_wp2_with fail
        go_ret
        exact ⟨ret_int HV.out.symm, B3.out⟩
      | true =>
        have HFG := Lib.hid hfg
        clear hfg
        go_wp2_with fail
        refine (rfits_any _ _ _ _ HK3.out b2).mono ?_
        rintro e w4 ⟨rfl, hB⟩
        have B4 := Lib.hid (B3.out.trans (hB.mono B3.out.size))
        clear hB
        cases hfk : fitsE k width with
        | false =>
          have HV := Lib.hid (show checkT what width g k L = 2 by rw [H.out, hfk, if_neg (by simp)])
          clear hfk
          go_wp2_with fail
          go_ret
          exact ⟨ret_int HV.out.symm, B4.out⟩
        | true =>
          have HFK := Lib.hid hfk
          clear hfk
          have HV := Lib.hid (show checkT what width g k L = 0 by rw [H.out, if_pos ⟨HFG.out, HFK.out, by omega⟩])
          go_wp2_with fail
          go_ret
          exact ⟨ret_int HV.out.symm, B4.out⟩

end Go.Proofs.Ytflkelnfdoihlaa

/-
  slices.Contains, Clone of words; transfer.do: contracts. Written by wip/gen/mkdo.py.
-/
namespace Go.Proofs.Ytflkelnfdoihlaa
open Go.RowKit

set_option maxHeartbeats 1600000 in
set_option maxRecDepth 100000 in
theorem sindex_any (v : Value) (a : List Nat) (x : Nat) (w : World) (h : Ws w v a) (hn : a.length ≤ 1000000) :
    Calls Try.prog 86 #[v, .int .u64 (x : Nat)] w fun e w' => (∃ r : Int, e = .returned (.int .i64 r) ∧ decide (0 ≤ r) = a.any (fun z => z == x)) ∧ w' = w := by
  obtain ⟨p, c, rfl, hc⟩ := ws_row h
  have HC := Lib.hid hc
  have H1 := Lib.hid (show (∀ j, j < a.length → wAt a j ≠ x) → a.any (fun z => z == x) = false from fun h => by
    rw [Bool.eq_false_iff]
    intro h2
    obtain ⟨z, hz, he⟩ := List.any_eq_true.1 h2
    obtain ⟨i, hi, rfl⟩ := List.getElem_of_mem hz
    have := h i hi
    unfold wAt at this
    rw [List.getElem?_eq_getElem hi] at this
    exact this (by simpa using he))
  have H0 := Lib.hid (show ∀ j, j < a.length → wAt a j = x → a.any (fun z => z == x) = true from fun j hj h => by
    rw [List.any_eq_true]
    refine ⟨a[j], List.getElem_mem hj, ?_⟩
    unfold wAt at h
    rw [List.getElem?_eq_getElem hj] at h
    simpa using h)
  clear h hc
  go_enter Try.func86, Try.ntmps86
  go_wp2_with fail
  go_loopw [8] (fun i wr => ∃ k : Nat, k ≤ a.length ∧ i = .int .i64 k ∧ Hid (∀ i, i < k → wAt a i ≠ x) ∧ wr = w)
    (fun i _ => a.length - (intOf i).toNat)
  case atStart => exact ⟨0, Nat.zero_le _, rfl, Lib.hid (fun i h => by omega), rfl⟩
  case round =>
    obtain ⟨k, hk, rfl, HA, rfl⟩ := hrel
    by_cases hlt : k < a.length
    · obtain ⟨ad, rfl, q⟩ := HC.out (by omega)
      have hck := q k hlt
      rw [show a[k]?.getD 0 = wAt a k from rfl] at hck
      have hii : (k : Int) < a.length := by omega
      have H0k := Lib.hid (H0.out k hlt)
      have HS := Lib.hid (show wAt a k ≠ x → ∀ i, i < k + 1 → wAt a i ≠ x from fun e i hi => by
        rcases (show i < k ∨ i = k by omega) with h | rfl
        · exact HA.out i h
        · exact e)
      clear q
      generalize wAt a k = z at *
      by_cases hz : z = x
      · subst hz
        have HV := Lib.hid (H0k.out rfl)
        go_wp2_with fail
        go_ret
        exact ⟨⟨_, rfl, by rw [HV.out]; simp⟩, rfl⟩
      · have HS2 := Lib.hid (HS.out hz)
        have hzb : ((x : Int) == (z : Int)) = false := by simp; omega
        clear hz
        go_wp2_with fail
        go_roundw
        case rel => exact ⟨k + 1, by omega, by go_num, HS2, trivial⟩
        case measure => simp [intOf]; omega
    · obtain rfl : k = a.length := by omega
      have HV := Lib.hid (H1.out HA.out)
      go_wp2_with fail
      go_ret
      exact ⟨⟨_, rfl, by rw [HV.out]; rfl⟩, rfl⟩

theorem scontains_any (v : Value) (a : List Nat) (x : Nat) (w : World) (h : Ws w v a) (hn : a.length ≤ 1000000) :
    Calls Try.prog 63 #[v, .int .u64 (x : Nat)] w fun e w' => e = .returned (.bool (a.any (fun z => z == x))) ∧ w' = w := by
  have H := Lib.hid h
  obtain ⟨p, c, rfl⟩ := ws_len h
  clear h
  go_enter Try.func63, Try.ntmps63
  go_wp2_with fail
  refine (sindex_any _ a x _ H.out hn).mono ?_
  rintro e w1 ⟨⟨r, rfl, hr⟩, hww⟩
  subst w1
  have HR := Lib.hid hr
  clear hr
  go_wp2_with fail
  go_ret
  exact ⟨ret_bool HR.out, rfl⟩

/-- A row of words that this call owns. -/
def Own (w : World) (B : Nat) (u : Value) (a : List Nat) : Prop := w.ownsRow B 29 1 u a.length (u64s a)

set_option maxHeartbeats 1600000 in
set_option maxRecDepth 100000 in
theorem sclone_any (v : Value) (a : List Nat) (w : World) (h : Ws w v a) (hn : a.length ≤ 1000000) :
    Calls Try.prog 64 #[v] w fun e w' => ∃ u, e = .returned u ∧ Own w' w.heap.size u a ∧ Below w.heap.size w w' := by
  obtain ⟨i0, hi, hz0, hz1, hz2⟩ := info_parts u64_info
  have HB0 := Lib.hid ((Below.refl w.heap.size w).alloc (Nat.le_refl _) (.cells #[] 29))
  have HU := Lib.hid (own_bare64 w w.heap.size (Nat.le_refl _))
  obtain ⟨hz, ⟨rfl, rfl⟩ | ⟨ad, c, rfl, hc⟩⟩ := h
  · clear HU HB0
    have he : ∀ w : World, (binOp .eql 22 (.slice none 0 0) (.slice none 0 0)).run Try.prog w = .ok (.bool true) w := fun _ => rfl
    go_enter Try.func64, Try.ntmps64
    go_wp2_with fail
    go_ret
    exact ⟨_, rfl, World.ownsRow_nil _ _ _ _, Below.refl _ _⟩
  · have HQ := Lib.hid (show ∀ j u, (u64s a)[j]? = some u → w.cell? (ad.add j) = some u from fun j u hj => by
      have hlt : j < a.length := by
        rcases Nat.lt_or_ge j a.length with h | h
        · exact h
        · rw [List.getElem?_eq_none (by simpa [u64s] using h)] at hj; cases hj
      rw [u64s_at a j hlt] at hj
      injection hj with hj
      subst hj
      exact hc j hlt)
    clear hc
    have he : ∀ w : World, (binOp .eql 22 (.slice (some ad) a.length c) (.slice none 0 0)).run Try.prog w = .ok (.bool false) w := fun _ => rfl
    go_enter Try.func64, Try.ntmps64
    go_wp2_with (at_builtin; refine wpList_append_own _ rfl _ _ 22 rfl w.heap.size 29 i0 (.int .u64 0) 1 8 Try.underlying22 hi hz0 hz1 hz2 rfl (by decide) _ 0 [] rfl HU.out ad a.length c (u64s a) rfl ?c1 ?c2 ?c3 ?c4 ?c5 ?c6 ?_)
    case c1 => simp [u64s]
    case c2 => exact fun j u hj => keepc (HQ.out j u hj) HB0.out
    case c3 => exact fun u hu => by obtain ⟨_, _, rfl⟩ := List.mem_map.1 hu; rfl
    case c4 => unfold maxLen; omega
    case c5 => omega
    case c6 => simp
    intro v' w1 hown hgrow _
    have HO := Lib.hid (show Own w1 w.heap.size v' a by
      unfold Own
      simpa using hown)
    have HB1 := Lib.hid (HB0.out.grown hgrow (by simp) (fun k hk => (HU.out.lt k hk).1))
    clear hown hgrow
    go_wp2_with fail
    go_ret
    exact ⟨_, rfl, HO.out, HB1.out⟩

theorem own_set {w : World} {B g n cap i : Nat} {xs : List Value} {u : Value} (h : w.ownsRow B 29 1 (.slice (some ⟨g, 0, none⟩) n cap) n xs) (_hi : i < n) : (w.setCell ⟨g, i, none⟩ u).ownsRow B 29 1 (.slice (some ⟨g, 0, none⟩) n cap) n (xs.set i u) := by
  obtain ⟨hl, ⟨h1, _⟩ | ⟨g', cap', cur, h1, hg, hb, hnc, hm, hs, hc⟩⟩ := h
  · cases h1
  · injection h1 with h1 h2 h3
    injection h1 with h1
    injection h1 with h1
    subst h1 h3
    have hk : Bk w g 29 cur.toList := hb
    have hk2 := hk.set i u
    refine ⟨by simpa using hl, .inr ⟨g, cap, (cur.toList.set i u).toArray, rfl, hg, hk2, hnc, hm, by simpa using hs, ?_⟩⟩
    rw [← hc]
    simp [List.take_set]

def codeStep (a : List Nat) (c : CodeT) : List Nat := a.set c.v.toNat (if c.o = -1 then 1 else (cop c.o (wordR a c.av c.ar c.ai : Nat) (wordR a c.bv c.br c.bi : Nat)).toNat)
def doK (a : List Nat) (L : List CodeT) (k : Nat) : List Nat := (L.take k).foldl codeStep a
theorem doK_succ (a : List Nat) (L : List CodeT) (k : Nat) (h : k < L.length) : doK a L (k + 1) = codeStep (doK a L k) (cdAt L k) := by
  unfold doK cdAt
  rw [List.take_add_one, List.foldl_append, List.getElem?_eq_getElem h]
  rfl
theorem cop_lt (op : Int) (x y : Nat) : 0 ≤ cop op x y ∧ cop op x y < 18446744073709551616 := by
  have hr : ∀ op x y, 0 ≤ rr op x y ∧ rr op x y ≤ 18446744073709551615 := fun op x y => by
    unfold rr
    split
    · omega
    · split
      · omega
      · split
        · have := word_bd (gop op (numv x).1 (numv x).2 (numv y).1 (numv y).2).1 (gop op (numv x).1 (numv x).2 (numv y).1 (numv y).2).2
          omega
        · omega
  rw [cop_rr]
  have := hr op (sou x) (if op = 0 ∨ op = 4 then 2 else sou y)
  omega
theorem codeStep_len (a : List Nat) (c : CodeT) : (codeStep a c).length = a.length := by simp [codeStep]
theorem codeStep_lt {a : List Nat} (h : ∀ z ∈ a, z < 18446744073709551616) (c : CodeT) : ∀ z ∈ codeStep a c, z < 18446744073709551616 := fun z hz => by
  rcases List.mem_or_eq_of_mem_set hz with hz | rfl
  · exact h z hz
  · split
    · decide
    · have := cop_lt c.o (wordR a c.av c.ar c.ai) (wordR a c.bv c.br c.bi)
      omega
theorem doK_len (a : List Nat) (L : List CodeT) (k : Nat) : (doK a L k).length = a.length := by
  unfold doK
  generalize L.take k = m
  induction m generalizing a with
  | nil => rfl
  | cons x m ih => rw [List.foldl_cons, ih, codeStep_len]
theorem doK_lt {a : List Nat} (h : ∀ z ∈ a, z < 18446744073709551616) (L : List CodeT) (k : Nat) : ∀ z ∈ doK a L k, z < 18446744073709551616 := by
  unfold doK
  generalize L.take k = m
  induction m generalizing a with
  | nil => exact h
  | cons x m ih => exact ih (codeStep_lt h x)
/-- Whether a code's variables are there. -/
def codeIn (n : Nat) (c : CodeT) : Prop := 0 ≤ c.v ∧ c.v < n ∧ -1 ≤ c.o ∧ (c.o = -1 ∨ (refIn n c.av ∧ refIn n c.bv))

set_option maxHeartbeats 12800000 in
set_option maxRecDepth 100000 in
theorem do_any (w0 : World) (u vl : Value) (a : List Nat) (L : List CodeT) (w : World) (hz : ∀ z ∈ a, z < 18446744073709551616) (h1 : Own w w0.heap.size u a) (h2 : Codes w0 vl L) (hB : Below w0.heap.size w0 w) (hL : ∀ j, j < L.length → codeIn a.length (cdAt L j)) (hn : a.length ≤ 1000000) (hm : L.length ≤ 1000000) :
    Calls Try.prog 65 #[u, vl] w fun e w' => e = .returned (.tuple #[]) ∧ Own w' w0.heap.size u (doK a L L.length) ∧ Below w0.heap.size w0 w' := by
  obtain ⟨o2, c2, rfl, hc2⟩ := h2
  have HC := Lib.hid hc2
  have HO0 := Lib.hid h1
  have HB0 := Lib.hid hB
  have HIN := Lib.hid hL
  have HZ := Lib.hid hz
  have hus : ∃ p cap, u = .slice p a.length cap ∧ (0 < a.length → ∃ g, p = some ⟨g, 0, none⟩ ∧ w0.heap.size ≤ g ∧ g < w.heap.size) := by
    obtain ⟨hl, ⟨rfl, h0⟩ | ⟨g, cap, cur, rfl, hg, hb, _⟩⟩ := h1
    · exact ⟨none, 0, by rw [h0], by omega⟩
    · exact ⟨_, cap, rfl, fun _ => ⟨g, rfl, hg, lt_of_block hb⟩⟩
  obtain ⟨p, cap, rfl, hp⟩ := hus
  have HP := Lib.hid hp
  clear hc2 h1 hL hz hp
  have K0 := Lib.hid (Bk.new w 22 [.slice p a.length cap])
  have HOb := Lib.hid (own_below HO0.out ((Below.refl w.heap.size w).alloc (Nat.le_refl _) (.cells #[.slice p a.length cap] 22)))
  have HBb := Lib.hid (HB0.out.alloc (by have := HB0.out.size; omega) (.cells #[.slice p a.length cap] 22))
  have hwsz := HB0.out.size
  clear hB
  go_enter Try.func65, Try.ntmps65
  go_wp2_with fail
  go_loopw [10] (fun i wr => ∃ k : Nat, k ≤ L.length ∧ i = .int .i64 k ∧ Own wr w0.heap.size (.slice p a.length cap) (doK a L k) ∧ Bk wr w.heap.size 22 [.slice p a.length cap] ∧ Below w0.heap.size w0 wr ∧ w.heap.size < wr.heap.size)
    (fun i _ => L.length - (intOf i).toNat)
  case atStart => exact ⟨0, Nat.zero_le _, rfl, HOb.out, K0.out, HBb.out, by simp⟩
  case round =>
    obtain ⟨k, hk, rfl, hO, hK, hB, hsz⟩ := hrel
    have HB := Lib.hid hB
    have HO := Lib.hid hO
    have KX := Lib.hid hK
    clear hO hK
    by_cases hlt : k < L.length
    · obtain ⟨b, off, rfl, hd⟩ := HC.out (by omega)
      have hd := hd k hlt
      have hin := HIN.out k hlt
      have HS := Lib.hid (doK_succ a L k hlt)
      have hxl := doK_len a L k
      have HLT := Lib.hid (doK_lt HZ.out L k)
      generalize doK a L k = x at *
      generalize cdAt L k = cd at *
      obtain ⟨cv, co, av, ar, ai, bv, br, bi⟩ := cd
      have e0 := keepc (hd 0 _ rfl) HB.out
      have e1 := keepc (hd 1 _ rfl) HB.out
      have e2 := keepc (hd 2 _ rfl) HB.out
      have e3 := keepc (hd 3 _ rfl) HB.out
      have e4 := keepc (hd 4 _ rfl) HB.out
      have e5 := keepc (hd 5 _ rfl) HB.out
      have e6 := keepc (hd 6 _ rfl) HB.out
      have e7 := keepc (hd 7 _ rfl) HB.out
      simp only [Nat.add_zero] at e0
      obtain ⟨hv0, hv1, ho1, hrf⟩ := hin
      simp only at hv0 hv1 ho1 hrf
      obtain ⟨m, rfl⟩ : ∃ m : Nat, cv = m := ⟨cv.toNat, by omega⟩
      have hma : m < a.length := by omega
      obtain ⟨g, rfl, hgB, hgw⟩ := HP.out (by omega)
      have hgne : w.heap.size ≠ g := by omega
      have KC := Lib.hid (Bk.new wr 82 [.int .i64 (m : Nat), .int .i64 co, .int .i64 av, .int .i64 ar, .int .i64 ai, .int .i64 bv, .int .i64 br, .int .i64 bi])
      have hBa := (Below.refl wr.heap.size wr).alloc (Nat.le_refl _) (.cells #[.int .i64 (m : Nat), .int .i64 co, .int .i64 av, .int .i64 ar, .int .i64 ai, .int .i64 bv, .int .i64 br, .int .i64 bi] 82)
      have HB1 := Lib.hid (HB.out.alloc HB.out.size (.cells #[.int .i64 (m : Nat), .int .i64 co, .int .i64 av, .int .i64 ar, .int .i64 ai, .int .i64 bv, .int .i64 br, .int .i64 bi] 82))
      have KX := Lib.hid (KX.out.below hBa)
      have HO := Lib.hid (own_below HO.out hBa)
      have HXL := Lib.hid hxl
      have hmi : (m : Int) < a.length := by omega
      clear hd hBa hxl hB hv0 hv1
      by_cases d5 : co = -1
      · subst d5
        have HS2 := Lib.hid (show doK a L (k + 1) = x.set m 1 by rw [HS.out]; unfold codeStep; simp)
        have hO2 := HO.out
        obtain ⟨_, ⟨hq, _⟩ | ⟨g', cap', cur, hq, _, hbk, _, _, hcs, hct⟩⟩ := hO2
        · cases hq
        injection hq with hq1 hq2 hq3
        injection hq1 with hq1
        injection hq1 with hq1
        subst hq1 hq3
        have HK3 := Lib.hid (show Bk _ g 29 cur.toList from hbk)
        have hxlen := HXL.out
        have hcell : (wr.alloc (.cells #[.int .i64 (m : Nat), .int .i64 (-1), .int .i64 av, .int .i64 ar, .int .i64 ai, .int .i64 bv, .int .i64 br, .int .i64 bi] 82)).cell? ⟨g, m, none⟩ = some (.int .u64 (wAt x m : Nat)) := by
          rw [HK3.out.cell, ← u64s_at x m (by omega), ← hct, List.getElem?_take, if_pos (by omega)]
        have hfree := HK3.out.free m
        have HOs := Lib.hid (own_set (i := m) (u := .int .u64 ((1 : Nat) : Int)) (show World.ownsRow _ w0.heap.size 29 1 (.slice (some ⟨g, 0, none⟩) a.length cap) a.length (u64s x) by have h := HO.out; unfold Own at h; rw [hxlen] at h; exact h) hma)
        rw [← u64s_set, ← HS2.out] at HOs
        have hc0 := KX.out.cell 0
        simp only [List.getElem?_cons_zero] at hc0
        have HKX := Lib.hid (KX.out.far (p := ⟨g, m, none⟩) hgne (.int .u64 ((1 : Nat) : Int)))
        have HBs := Lib.hid (HB1.out.setCell (p := ⟨g, m, none⟩) hgB (.int .u64 ((1 : Nat) : Int)))
        have HDL := Lib.hid (doK_len a L (k + 1))
        generalize wAt x m = z at *
        clear hq2 hbk hct hcs hxlen
        go_wp2_with fail
        go_roundw
        case rel => exact ⟨k + 1, by omega, by go_num, by unfold Own; rw [HDL.out]; exact HOs.out, HKX.out, HBs.out, by simp; omega⟩
        case measure => simp [intOf]; omega
      · have e5b : (co == -1) = false := by simpa using d5
        obtain ⟨ra, rb⟩ : refIn a.length av ∧ refIn a.length bv := by rcases hrf with h | h; exact absurd h d5; exact h
        have RA := Lib.hid (show refIn x.length av by rw [HXL.out]; exact ra)
        have RB := Lib.hid (show refIn x.length bv by rw [HXL.out]; exact rb)
        have HXA := Lib.hid (show 0 ≤ ((wordR x av ar ai : Nat) : Int) ∧ ((wordR x av ar ai : Nat) : Int) ≤ 18446744073709551615 by have := wordR_lt HLT.out av ar ai; omega)
        have HXB := Lib.hid (show 0 ≤ ((wordR x bv br bi : Nat) : Int) ∧ ((wordR x bv br bi : Nat) : Int) ≤ 18446744073709551615 by have := wordR_lt HLT.out bv br bi; omega)
        have HCL := Lib.hid (cop_lt co (wordR x av ar ai) (wordR x bv br bi))
        have HS2 := Lib.hid (show doK a L (k + 1) = x.set m (cop co (wordR x av ar ai : Nat) (wordR x bv br bi : Nat)).toNat by rw [HS.out]; unfold codeStep; simp [d5])
        clear hrf ra rb d5
        generalize hxa : wordR x av ar ai = xa at *
        generalize hxb : wordR x bv br bi = xb at *
        have NXA := Lib.hid hxa
        have NXB := Lib.hid hxb
        clear hxa hxb
        have DA : ∀ v1, v1.cell? ⟨w.heap.size, 0, none⟩ = some (.slice (some ⟨g, 0, none⟩) a.length cap) → Own v1 w0.heap.size (.slice (some ⟨g, 0, none⟩) a.length cap) x → Calls Try.prog 87 #[.agg #[.int .i64 av, .int .i64 ar, .int .i64 ai], .pointer (some ⟨w.heap.size, 0, none⟩)] v1 fun e w' => e = .returned (.int .u64 (xa : Nat)) ∧ Below v1.heap.size v1 w' := fun v1 hc ho => by
          rw [← NXA.out]; exact do1_any av ar ai _ _ x v1 hc (Ws.of_owns ho HLT.out) RA.out
        have DB : ∀ v1, v1.cell? ⟨w.heap.size, 0, none⟩ = some (.slice (some ⟨g, 0, none⟩) a.length cap) → Own v1 w0.heap.size (.slice (some ⟨g, 0, none⟩) a.length cap) x → Calls Try.prog 87 #[.agg #[.int .i64 bv, .int .i64 br, .int .i64 bi], .pointer (some ⟨w.heap.size, 0, none⟩)] v1 fun e w' => e = .returned (.int .u64 (xb : Nat)) ∧ Below v1.heap.size v1 w' := fun v1 hc ho => by
          rw [← NXB.out]; exact do1_any bv br bi _ _ x v1 hc (Ws.of_owns ho HLT.out) RB.out
        have HDA := Lib.hid DA
        have HDB := Lib.hid DB
        clear DA DB
        go_wp2_with fail
        refine wp_region_held_drew (S := (fun w' => w'.cell? ⟨w.heap.size, 0, none⟩ = some (.slice (some ⟨g, 0, none⟩) a.length cap) ∧ w'.cell? ⟨wr.heap.size, 0, none⟩ = some (.int .i64 (m : Nat)) ∧ w'.cell? ⟨wr.heap.size, 1, none⟩ = some (.int .i64 co) ∧ w'.cell? ⟨wr.heap.size, 2, none⟩ = some (.int .i64 av) ∧ w'.cell? ⟨wr.heap.size, 3, none⟩ = some (.int .i64 ar) ∧ w'.cell? ⟨wr.heap.size, 4, none⟩ = some (.int .i64 ai) ∧ w'.cell? ⟨wr.heap.size, 5, none⟩ = some (.int .i64 bv) ∧ w'.cell? ⟨wr.heap.size, 6, none⟩ = some (.int .i64 br) ∧ w'.cell? ⟨wr.heap.size, 7, none⟩ = some (.int .i64 bi) ∧ Below w0.heap.size w0 w')) (by kernel_rfl) ?_ (fun hHeld => ?_)
        · exact ⟨KX.out.cell 0, KC.out.cell 0, KC.out.cell 1, KC.out.cell 2, KC.out.cell 3, KC.out.cell 4, KC.out.cell 5, KC.out.cell 6, KC.out.cell 7, HB1.out.drew⟩
        have HO := Lib.hid (own_below HO.out ((Below.refl _ _).drew))
        have KX := Lib.hid (KX.out.drew)
        generalize (wr.alloc (.cells #[.int .i64 (m : Nat), .int .i64 co, .int .i64 av, .int .i64 ar, .int .i64 ai, .int .i64 bv, .int .i64 br, .int .i64 bi] 82)).drew = v0 at hHeld HO KX ⊢
        refine take_at 0 (v := ?_) (some 21) rfl rfl (by kernel_rfl) (by kernel_rfl) (by kernel_rfl) (fun _ _ _ h => h) (Or.inl ⟨by rfl, ?_⟩) hHeld ?_
        rotate_left
        · (intro w hSw; (try dsimp only at hSw); go_simp; (try with_reducible rfl))
        simp only [Act.put, List.setIfInBounds_toArray, List.set_cons_zero, List.set_cons_succ]
        refine take_at 1 (v := ?_) (some 22) rfl rfl (by kernel_rfl) (by kernel_rfl) (by kernel_rfl) (fun _ _ _ h => h) (Or.inl ⟨by rfl, ?_⟩) hHeld ?_
        rotate_left
        · (intro w hSw; (try dsimp only at hSw); go_simp; (try with_reducible rfl))
        simp only [Act.put, List.setIfInBounds_toArray, List.set_cons_zero, List.set_cons_succ]
        refine take_at 2 (v := ?_) (some 23) rfl rfl (by kernel_rfl) (by kernel_rfl) (by kernel_rfl) (fun _ _ _ h => h) (Or.inl ⟨by rfl, ?_⟩) hHeld ?_
        rotate_left
        · (intro w hSw; (try dsimp only at hSw); go_simp; (try with_reducible rfl))
        simp only [Act.put, List.setIfInBounds_toArray, List.set_cons_zero, List.set_cons_succ]
        refine take_at 3 (v := ?_) (some 24) rfl rfl (by kernel_rfl) (by kernel_rfl) (by kernel_rfl) (fun _ _ _ h => h) (Or.inl ⟨by rfl, ?_⟩) hHeld ?_
        rotate_left
        · (intro w hSw; (try dsimp only at hSw); go_simp; (try with_reducible rfl))
        simp only [Act.put, List.setIfInBounds_toArray, List.set_cons_zero, List.set_cons_succ]
        refine take_at 4 (v := ?_) (some 25) rfl rfl (by kernel_rfl) (by kernel_rfl) (by kernel_rfl) (fun _ _ _ h => h) (Or.inl ⟨by rfl, ?_⟩) hHeld ?_
        rotate_left
        · (intro w hSw; (try dsimp only at hSw); go_simp; (try with_reducible rfl))
        simp only [Act.put, List.setIfInBounds_toArray, List.set_cons_zero, List.set_cons_succ]
        refine take_at 5 (v := ?_) (some 26) rfl rfl (by kernel_rfl) (by kernel_rfl) (by kernel_rfl) (fun _ _ _ h => h) (Or.inl ⟨by rfl, ?_⟩) hHeld ?_
        rotate_left
        · (intro w hSw; (try dsimp only at hSw); go_simp; (try with_reducible rfl))
        simp only [Act.put, List.setIfInBounds_toArray, List.set_cons_zero, List.set_cons_succ]
        refine take_at 6 (v := ?_) (some 27) rfl rfl (by kernel_rfl) (by kernel_rfl) (by kernel_rfl) (fun _ _ _ h => h) (Or.inl ⟨by rfl, ?_⟩) hHeld ?_
        rotate_left
        · (intro w hSw; (try dsimp only at hSw); go_simp; (try with_reducible rfl))
        simp only [Act.put, List.setIfInBounds_toArray, List.set_cons_zero, List.set_cons_succ]
        refine take_at 7 (v := ?_) (some 28) rfl rfl (by kernel_rfl) (by kernel_rfl) (by kernel_rfl) (fun _ _ _ h => h) (Or.inl ⟨by rfl, ?_⟩) hHeld ?_
        rotate_left
        · (intro w hSw; (try dsimp only at hSw); go_simp; (try with_reducible rfl))
        simp only [Act.put, List.setIfInBounds_toArray, List.set_cons_zero, List.set_cons_succ]
        refine take_at 9 (v := ?_) (some 30) rfl rfl (by kernel_rfl) (by kernel_rfl) (by kernel_rfl) (fun _ _ _ h => h) (Or.inl ⟨by rfl, ?_⟩) hHeld ?_
        rotate_left
        · (intro w hSw; (try dsimp only at hSw); go_simp; (try with_reducible rfl))
        simp only [Act.put, List.setIfInBounds_toArray, List.set_cons_zero, List.set_cons_succ]
        refine take_at 10 (v := ?_) (some 31) rfl rfl (by kernel_rfl) (by kernel_rfl) (by kernel_rfl) (fun _ _ _ h => h) (Or.inl ⟨by rfl, ?_⟩) hHeld ?_
        rotate_left
        · (intro w hSw; (try dsimp only at hSw); go_simp; (try with_reducible rfl))
        simp only [Act.put, List.setIfInBounds_toArray, List.set_cons_zero, List.set_cons_succ]
        refine take_at 11 (v := ?_) (some 32) rfl rfl (by kernel_rfl) (by kernel_rfl) (by kernel_rfl) (fun _ _ _ h => h) (Or.inl ⟨by rfl, ?_⟩) hHeld ?_
        rotate_left
        · (intro w hSw; (try dsimp only at hSw); go_simp; (try with_reducible rfl))
        simp only [Act.put, List.setIfInBounds_toArray, List.set_cons_zero, List.set_cons_succ]
        refine wpAnyH_ready (rs := [8]) (by kernel_rfl) (by simp) ?_
        refine AllReadyH.cons rfl (fun K hK => ?_) AllReadyH.nil
        go_simp
        go_split_ands; refine (HDA.out _ (by assumption) HO.out).mono ?_; rintro e v1 ⟨rfl, hB⟩; have HO := Lib.hid (own_below HO.out hB); have KX := Lib.hid (KX.out.below hB)
        go_wp2_with fail
        refine hK.out _ _ ?_ (fun hHeld => ?_)
        · (try dsimp only at hHeld ⊢)
          go_split_ands
          exact ⟨keepc (by assumption) hB, keepc (by assumption) hB, keepc (by assumption) hB, keepc (by assumption) hB, keepc (by assumption) hB, keepc (by assumption) hB, keepc (by assumption) hB, keepc (by assumption) hB, keepc (by assumption) hB, (show Below w0.heap.size w0 _ by assumption).trans (hB.mono (show Below w0.heap.size w0 _ by assumption).size)⟩
        clear hK K hB
        try simp only [Act.put, List.setIfInBounds_toArray, List.set_cons_zero, List.set_cons_succ]
        refine wpAnyH_ready (rs := [12]) (by kernel_rfl) (by simp) ?_
        refine AllReadyH.cons rfl (fun K hK => ?_) AllReadyH.nil
        go_simp
        go_split_ands; refine (HDB.out _ (by assumption) HO.out).mono ?_; rintro e v2 ⟨rfl, hB⟩; have HO := Lib.hid (own_below HO.out hB); have KX := Lib.hid (KX.out.below hB)
        go_wp2_with fail
        refine hK.out _ _ ?_ (fun hHeld => ?_)
        · (try dsimp only at hHeld ⊢)
          go_split_ands
          exact ⟨keepc (by assumption) hB, keepc (by assumption) hB, keepc (by assumption) hB, keepc (by assumption) hB, keepc (by assumption) hB, keepc (by assumption) hB, keepc (by assumption) hB, keepc (by assumption) hB, keepc (by assumption) hB, (show Below w0.heap.size w0 _ by assumption).trans (hB.mono (show Below w0.heap.size w0 _ by assumption).size)⟩
        clear hK K hB
        try simp only [Act.put, List.setIfInBounds_toArray, List.set_cons_zero, List.set_cons_succ]
        refine wpAnyH_ready (rs := [13]) (by kernel_rfl) (by simp) ?_
        refine AllReadyH.cons rfl (fun K hK => ?_) AllReadyH.nil
        go_simp
        go_at_call 89; refine (cop_any _ _ _ _ HXA.out HXB.out).mono ?_; rintro e v3 ⟨rfl, hB⟩; have HO := Lib.hid (own_below HO.out hB); have KX := Lib.hid (KX.out.below hB)
        go_wp2_with fail
        refine hK.out _ _ ?_ (fun hHeld => ?_)
        · (try dsimp only at hHeld ⊢)
          go_split_ands
          exact ⟨keepc (by assumption) hB, keepc (by assumption) hB, keepc (by assumption) hB, keepc (by assumption) hB, keepc (by assumption) hB, keepc (by assumption) hB, keepc (by assumption) hB, keepc (by assumption) hB, keepc (by assumption) hB, (show Below w0.heap.size w0 _ by assumption).trans (hB.mono (show Below w0.heap.size w0 _ by assumption).size)⟩
        clear hK K hB
        try simp only [Act.put, List.setIfInBounds_toArray, List.set_cons_zero, List.set_cons_succ]
        refine take_at 14 (v := ?_) (some 35) rfl rfl (by kernel_rfl) (by kernel_rfl) (by kernel_rfl) (fun _ _ _ h => h) (Or.inl ⟨by rfl, ?_⟩) hHeld ?_
        rotate_left
        · (intro w hSw; (try dsimp only at hSw); go_simp; (try with_reducible rfl))
        simp only [Act.put, List.setIfInBounds_toArray, List.set_cons_zero, List.set_cons_succ]
        have hO2 := HO.out
        obtain ⟨_, ⟨hq, _⟩ | ⟨g', cap', cur, hq, _, hbk, _, _, hcs, hct⟩⟩ := hO2
        · cases hq
        injection hq with hq1 hq2 hq3
        injection hq1 with hq1
        injection hq1 with hq1
        subst hq1 hq3
        have HK3 := Lib.hid (show Bk v3 g 29 cur.toList from hbk)
        have hxlen := HXL.out
        have hcell : v3.cell? ⟨g, m, none⟩ = some (.int .u64 (wAt x m : Nat)) := by
          rw [HK3.out.cell, ← u64s_at x m (by omega), ← hct, List.getElem?_take, if_pos (by omega)]
        have hfree := HK3.out.free m
        have HOs := Lib.hid (own_set (i := m) (u := .int .u64 (cop co (xa : Nat) (xb : Nat))) (show v3.ownsRow w0.heap.size 29 1 (.slice (some ⟨g, 0, none⟩) a.length cap) a.length (u64s x) by have h := HO.out; unfold Own at h; rw [hxlen] at h; exact h) hma)
        have HRc := Lib.hid (show (u64s x).set m (.int .u64 (cop co (xa : Nat) (xb : Nat))) = u64s (doK a L (k + 1)) by
          rw [HS2.out, u64s_set, show (((cop co (xa : Nat) (xb : Nat)).toNat : Nat) : Int) = cop co (xa : Nat) (xb : Nat) by have := HCL.out; omega])
        rw [HRc.out] at HOs
        have HKX := Lib.hid (KX.out.far (p := ⟨g, m, none⟩) hgne (.int .u64 (cop co (xa : Nat) (xb : Nat))))
        have HDL := Lib.hid (doK_len a L (k + 1))
        generalize wAt x m = z at *
        clear hq2 hbk hct hcs hxlen
        refine wpAnyH_ready (rs := [15]) (by kernel_rfl) (by simp) ?_
        refine AllReadyH.cons rfl (fun K hK => ?_) AllReadyH.nil
        go_simp
        refine hK.out _ _ ?_ (fun hHeld => ?_)
        · (try dsimp only at hHeld ⊢)
          go_split_ands
          exact ⟨set_other (by assumption) (.inl (by show g ≠ w.heap.size; omega)), set_other (by assumption) (.inl (by show g ≠ wr.heap.size; omega)), set_other (by assumption) (.inl (by show g ≠ wr.heap.size; omega)), set_other (by assumption) (.inl (by show g ≠ wr.heap.size; omega)), set_other (by assumption) (.inl (by show g ≠ wr.heap.size; omega)), set_other (by assumption) (.inl (by show g ≠ wr.heap.size; omega)), set_other (by assumption) (.inl (by show g ≠ wr.heap.size; omega)), set_other (by assumption) (.inl (by show g ≠ wr.heap.size; omega)), set_other (by assumption) (.inl (by show g ≠ wr.heap.size; omega)), (show Below w0.heap.size w0 v3 by assumption).setCell (p := ⟨g, m, none⟩) hgB _⟩
        clear hK K
        try simp only [Act.put, List.setIfInBounds_toArray, List.set_cons_zero, List.set_cons_succ]
        refine wpAnyH_done (by kernel_rfl) ?_ _
        have HBs := Lib.hid hHeld.2.2.2.2.2.2.2.2.2
        clear hHeld
        go_wp2_with fail
        go_roundw
        case rel => exact ⟨k + 1, by omega, by go_num, by unfold Own; rw [HDL.out]; exact HOs.out, HKX.out, HBs.out, HKX.out.lt⟩
        case measure => simp [intOf]; omega
    · obtain rfl : k = L.length := by omega
      go_wp2_with fail
      exact bodyPost_end (results_none rfl _ _ _) rfl ⟨rfl, HO.out, HB.out⟩

end Go.Proofs.Ytflkelnfdoihlaa

/-
  transfer.Apply: its contract.
-/
namespace Go.Proofs.Ytflkelnfdoihlaa
open Go.RowKit

/-- What comes of a value. -/
def applyE (what width : Int) (g k : List Nat) (L : List CodeT) (a : List Nat) : List Nat :=
  if what = 3 then (if a.any (fun z => z == 0) = true then bottomE 3 width else doK a L L.length) else bothE orN (bothE minN a k) g
/-- What Apply tells is wrong. -/
def applyC (what width : Int) (g k : List Nat) (L : List CodeT) (a : List Nat) : Int :=
  if checkT what width g k L = 0 then (if valueE what width a = true then 0 else 2) else checkT what width g k L
def applyR (what width : Int) (g k : List Nat) (L : List CodeT) (a : List Nat) : List Nat :=
  if applyC what width g k L a = 0 then applyE what width g k L a else []
theorem ref_in {width v re im : Int} (h : refE width v re im = true) : refIn width.toNat v := by
  unfold refE at h
  split at h
  · next e => exact .inl e
  · rw [Bool.and_eq_true, Bool.and_eq_true, decide_eq_true_eq, decide_eq_true_eq] at h
    exact .inr ⟨h.1, by omega⟩
theorem code_in {width : Int} {c : CodeT} (h : codeE width c = true) : codeIn width.toNat c := by
  unfold codeE at h
  rw [Bool.and_eq_true, Bool.and_eq_true, Bool.and_eq_true, Bool.and_eq_true, decide_eq_true_eq, decide_eq_true_eq, decide_eq_true_eq, decide_eq_true_eq] at h
  obtain ⟨h1, h2, h3, h4, h5⟩ := h
  refine ⟨h1, by omega, h3, ?_⟩
  by_cases e : c.o = -1
  · exact .inl e
  · rw [if_neg e, Bool.and_eq_true] at h5
    exact .inr ⟨ref_in h5.1, ref_in h5.2⟩
theorem ct_flat_zero {width : Int} {g k : List Nat} {L : List CodeT} (h : checkT 3 width g k L = 0) : ∀ j, j < L.length → codeE width (cdAt L j) = true := by
  intro j hj
  unfold checkT at h
  split at h
  · rw [if_pos rfl] at h
    split at h
    · next hh =>
      have := List.all_eq_true.1 hh.2.2 _ (List.getElem_mem hj)
      unfold cdAt
      rw [List.getElem?_eq_getElem hj]
      exact this
    · omega
  · omega
theorem flat_len {width : Int} {a : List Nat} (h : valueE 3 width a = true) : a.length = width.toNat := by
  have h1 := value_len h
  have h2 := value_is h
  rw [h1]; unfold wordsN; rw [if_pos h2, if_pos rfl]

set_option maxHeartbeats 12800000 in
set_option maxRecDepth 100000 in
theorem tapply_any (what width : Int) (vg vk vl va : Value) (g k a : List Nat) (L : List CodeT) (w : World) (h1 : Ws w vg g) (h2 : Ws w vk k) (h3 : Codes w vl L) (h4 : Ws w va a) (b1 : g.length ≤ 1000) (b2 : k.length ≤ 1000) (b3 : L.length ≤ 1000000) (b4 : a.length ≤ 100000) :
    Calls Try.prog 33 #[.int .i64 what, .int .i64 width, .agg #[vg, vk, vl], va] w fun e w' =>
      ∃ u, e = .returned (.tuple #[u, .int .i64 (applyC what width g k L a)]) ∧ Ws w' u (applyR what width g k L a) ∧ Below w.heap.size w w' := by
  have HG := Lib.hid h1
  have HK := Lib.hid h2
  have HL := Lib.hid h3
  have HA := Lib.hid h4
  obtain ⟨pg, cg, rfl⟩ := ws_len h1
  obtain ⟨pk, ck, rfl⟩ := ws_len h2
  obtain ⟨pl, cl, rfl⟩ := h3.len
  obtain ⟨pa, ca, rfl⟩ := ws_len h4
  have B0 := Lib.hid ((Below.refl w.heap.size w).alloc (Nat.le_refl _) (.cells #[.slice pg g.length cg, .slice pk k.length ck, .slice pl L.length cl] 45))
  have K0 := Lib.hid (Bk.new w 45 [.slice pg g.length cg, .slice pk k.length ck, .slice pl L.length cl])
  clear h1 h2 h3 h4
  go_enter Try.func33, Try.ntmps33
  go_wp2_with fail
  refine (tcheck_any what width _ _ _ g k L _ (HG.out.below B0.out) (HK.out.below B0.out) (HL.out.below B0.out) b1 b2 b3).mono ?_
  rintro e w1 ⟨rfl, hB⟩
  have K1 := Lib.hid (K0.out.below hB)
  have B1 := Lib.hid (B0.out.trans (hB.mono B0.out.size))
  clear hB B0 K0
  obtain ⟨ce, hce⟩ : ∃ z, z = checkT what width g k L := ⟨_, rfl⟩
  have NCE := Lib.hid hce
  rw [← hce]
  clear hce
  by_cases h0 : ce = 0
  · subst h0
    have HA1 := Lib.hid (HA.out.below B1.out)
    go_wp2_with fail
    refine (lval_any what width _ a _ HA1.out b4).mono ?_
    rintro e w2 ⟨rfl, hB⟩
    have K2 := Lib.hid (K1.out.below hB)
    have B2 := Lib.hid (B1.out.trans (hB.mono B1.out.size))
    clear hB K1 HA1
    cases hv : valueE what width a with
    | false =>
      have HC := Lib.hid (show applyC what width g k L a = 2 by unfold applyC; rw [← NCE.out, if_pos rfl, hv, if_neg (by decide)])
      have HR := Lib.hid (show applyR what width g k L a = [] by unfold applyR; rw [HC.out, if_neg (by decide)])
      clear hv
      go_wp2_with fail
      go_ret2
      exact ⟨.slice none 0 0, by rw [HC.out]; rfl, by rw [HR.out]; exact ⟨by simp, .inl ⟨rfl, rfl⟩⟩, B2.out⟩
    | true =>
      have HC := Lib.hid (show applyC what width g k L a = 0 by unfold applyC; rw [← NCE.out, if_pos rfl, hv, if_pos rfl])
      have HR := Lib.hid (show applyR what width g k L a = applyE what width g k L a by unfold applyR; rw [HC.out, if_pos rfl])
      have HV := Lib.hid hv
      clear hv
      by_cases h3 : what = 3
      · subst h3
        have hlen := flat_len HV.out
        have HLn := Lib.hid hlen
        clear hlen
        have HA2 := Lib.hid (HA.out.below B2.out)
        go_wp2_with fail
        refine (scontains_any _ a 0 _ HA2.out (by omega)).mono ?_
        rintro e w3 ⟨rfl, hww⟩
        subst w3
        cases hz : a.any (fun z => z == 0) with
        | true =>
          have HE := Lib.hid (show applyE 3 width g k L a = bottomE 3 width by unfold applyE; rw [if_pos rfl, hz, if_pos rfl])
          clear hz
          go_wp2_with fail
          refine (bottom_any _ _ _).mono ?_
          rintro e w4 ⟨u, rfl, hW, hB⟩
          rw [← HE.out] at hW
          have HW := Lib.hid hW
          have B4 := Lib.hid (B2.out.trans (hB.mono B2.out.size))
          obtain ⟨p4, c4, rfl⟩ := ws_len hW
          clear hW hB
          go_wp2_with fail
          go_ret2
          exact ⟨_, by rw [HC.out]; rfl, by rw [HR.out]; exact HW.out, B4.out⟩
        | false =>
          have HE := Lib.hid (show applyE 3 width g k L a = doK a L L.length by unfold applyE; rw [if_pos rfl, hz, if_neg (by decide)])
          clear hz
          go_wp2_with fail
          refine (sclone_any _ a _ HA2.out (by omega)).mono ?_
          rintro e w4 ⟨u, rfl, hO, hB⟩
          have HB4 := Lib.hid hB
          have HO := Lib.hid hO
          have K4 := Lib.hid (K2.out.below hB)
          have B4 := Lib.hid (B2.out.trans (hB.mono B2.out.size))
          have HL4 := Lib.hid (HL.out.below B2.out)
          have c2 := K4.out.cell 2
          simp only [List.getElem?_cons_succ, List.getElem?_cons_zero] at c2
          obtain ⟨p4, c4, rfl⟩ := ws_len (Ws.of_owns hO HA.out.1)
          have HIN := Lib.hid (show ∀ j, j < L.length → codeIn a.length (cdAt L j) from fun j hj => by
            rw [HLn.out]; exact code_in (ct_flat_zero (g := g) (k := k) NCE.out.symm j hj))
          clear hO hB
          go_wp2_with fail
          refine (do_any w2 _ _ a L _ HA.out.1 HO.out HL4.out HB4.out HIN.out (by omega) b3).mono ?_
          rintro e w5 ⟨rfl, hO, hB⟩
          have HW := Lib.hid (show Ws w5 _ (doK a L L.length) from Ws.of_owns hO (doK_lt HA.out.1 L L.length))
          have B5 := Lib.hid (B2.out.trans (hB.mono B2.out.size))
          clear hO hB
          go_wp2_with fail
          go_ret2
          exact ⟨_, by rw [HC.out]; rfl, by rw [HR.out, HE.out]; exact HW.out, B5.out⟩
      · have hne : (what != 3) = true := by simp; omega
        have HE := Lib.hid (show applyE what width g k L a = bothE orN (bothE minN a k) g by unfold applyE; rw [if_neg h3])
        clear h3
        have HBL := Lib.hid (show (bothE minN a k).length ≤ 100000 by rw [bothE_len]; omega)
        go_wp2_with fail
        go_region_held3 (fun w' => w'.cell? ⟨w.heap.size, 0, none⟩ = some (.slice pg g.length cg) ∧ w'.cell? ⟨w.heap.size, 1, none⟩ = some (.slice pk k.length ck) ∧ Below w.heap.size w w')
          (first
            | exact ⟨K2.out.cell 0, K2.out.cell 1, B2.out.drew⟩
            | (go_split_ands; exact ⟨keepc (by assumption) hB, keepc (by assumption) hB, bel_then (by assumption) hB⟩))
          (first
            | (go_at_call 62; go_split_ands; refine (minus_any _ _ a k _ (HA.out.below (by assumption)) (HK.out.below (by assumption)) b4 (by omega)).mono ?_; rintro e w5 ⟨v5, rfl, hW5, hB⟩; have HW5 := Lib.hid hW5; obtain ⟨p5, c5, rfl⟩ := ws_len hW5; clear hW5)
            | (go_at_call 61; go_split_ands; refine (union_any _ _ (bothE minN a k) g _ HW5.out (HG.out.below (by assumption)) HBL.out (by omega)).mono ?_; rintro e w6 ⟨v6, rfl, hW6, hB⟩; have HW6 := Lib.hid hW6; obtain ⟨p6, c6, rfl⟩ := ws_len hW6; clear hW6))
        all_goals
          go_split_ands
          have BF := Lib.hid (show Below w.heap.size w _ by assumption)
          go_wp2_with fail
          go_ret2
          exact ⟨_, by rw [HC.out]; rfl, by rw [HR.out, HE.out]; exact HW6.out, BF.out⟩
  · have hb : (ce != 0) = true := by simp; omega
    have HC := Lib.hid (show applyC what width g k L a = ce by unfold applyC; rw [← NCE.out, if_neg h0])
    have HR := Lib.hid (show applyR what width g k L a = [] by unfold applyR; rw [HC.out, if_neg h0])
    clear h0
    go_wp2_with fail
    go_ret2
    exact ⟨.slice none 0 0, by rw [HC.out]; rfl, by rw [HR.out]; exact ⟨by simp, .inl ⟨rfl, rfl⟩⟩, B1.out⟩

end Go.Proofs.Ytflkelnfdoihlaa

/-
  soughref16.Apply: its contract.
-/
namespace Go.Proofs.Ytflkelnfdoihlaa
open Go.RowKit

theorem any_zero {a : List Nat} (h : ∀ j, j < a.length → wAt a j ≠ 0) : a.any (fun z => z == 0) = false := by
  rw [Bool.eq_false_iff]
  intro h2
  obtain ⟨z, hz, he⟩ := List.any_eq_true.1 h2
  obtain ⟨i, hi, rfl⟩ := List.getElem_of_mem hz
  have := h i hi
  unfold wAt at this
  rw [List.getElem?_eq_getElem hi] at this
  exact this (by simpa using he)
theorem any_one {a : List Nat} (j : Nat) (hj : j < a.length) (h : wAt a j = 0) : a.any (fun z => z == 0) = true := by
  rw [List.any_eq_true]
  refine ⟨a[j], List.getElem_mem hj, ?_⟩
  unfold wAt at h
  rw [List.getElem?_eq_getElem hj] at h
  simpa using h

set_option maxHeartbeats 12800000 in
set_option maxRecDepth 100000 in
theorem rapply_set (what width : Int) (vg vk vl va : Value) (g k a : List Nat) (L : List CodeT) (w : World) (h1 : Ws w vg g) (h2 : Ws w vk k) (h3 : Codes w vl L) (h4 : Ws w va a) (b1 : g.length ≤ 1000) (b2 : k.length ≤ 1000) (b4 : a.length ≤ 1000) (hw3 : what ≠ 3) :
    Calls Try.prog 36 #[.int .i64 what, .agg #[vg, vk, vl], va] w fun e w' => ∃ u, e = .returned u ∧ Ws w' u (applyE what width g k L a) ∧ Below w.heap.size w w' := by
  have HG := Lib.hid h1
  have HK := Lib.hid h2
  have HA := Lib.hid h4
  obtain ⟨pg, cg, rfl⟩ := ws_len h1
  obtain ⟨pk, ck, rfl⟩ := ws_len h2
  obtain ⟨pl, cl, rfl⟩ := h3.len
  obtain ⟨pa, ca, rfl⟩ := ws_len h4
  have B0 := Lib.hid ((Below.refl w.heap.size w).alloc (Nat.le_refl _) (.cells #[.slice pg g.length cg, .slice pk k.length ck, .slice pl L.length cl] 45))
  have K0 := Lib.hid (Bk.new w 45 [.slice pg g.length cg, .slice pk k.length ck, .slice pl L.length cl])
  have hne : (what != 3) = true := by simp; omega
  obtain ⟨M, hM⟩ : ∃ M, M = bothE minN a k := ⟨_, rfl⟩
  obtain ⟨R, hR⟩ : ∃ R, R = bothE orN M g := ⟨_, rfl⟩
  have HE := Lib.hid (show applyE what width g k L a = R by unfold applyE; rw [if_neg hw3, hR, hM])
  have HBL := Lib.hid (show M.length ≤ 1000 by rw [hM, bothE_len]; omega)
  have HF1 := Lib.hid (show bothF (fun x y => x && !y) a k (64 * max a.length k.length) = M by rw [hM]; exact bothF_all (fun x y => x && !y) minN minN_lt (fun x y j hx hy => minN_bit x y j hx hy) a k h4.1 h2.1)
  have HF2 := Lib.hid (show bothF (fun x y => x || y) M g (64 * max M.length g.length) = R by rw [hR]; exact bothF_all (fun x y => x || y) orN orN_lt (fun x y j _ _ => or_bits x y j) M g (by rw [hM]; exact bothE_lt minN_lt h4.1 h2.1) h1.1)
  clear h1 h2 h3 h4 hw3 hM hR
  go_enter Try.func36, Try.ntmps36
  go_wp2_with fail
  refine wp_region_held_drew (S := (fun w' => w'.cell? ⟨w.heap.size, 0, none⟩ = some (.slice pg g.length cg) ∧ w'.cell? ⟨w.heap.size, 1, none⟩ = some (.slice pk k.length ck) ∧ Below w.heap.size w w')) (by kernel_rfl) ?_ (fun hHeld => ?_)
  · exact ⟨K0.out.cell 0, K0.out.cell 1, B0.out.drew⟩
  refine take_at 0 (v := ?_) (some 15) rfl rfl (by kernel_rfl) (by kernel_rfl) (by kernel_rfl) (fun _ _ _ h => h) (Or.inl ⟨by rfl, ?_⟩) hHeld ?_
  rotate_left
  · (intro w hSw; (try dsimp only at hSw); go_simp; (try with_reducible rfl))
  simp only [Act.put, List.setIfInBounds_toArray, List.set_cons_zero, List.set_cons_succ]
  refine take_at 1 (v := ?_) (some 16) rfl rfl (by kernel_rfl) (by kernel_rfl) (by kernel_rfl) (fun _ _ _ h => h) (Or.inl ⟨by rfl, ?_⟩) hHeld ?_
  rotate_left
  · (intro w hSw; (try dsimp only at hSw); go_simp; (try with_reducible rfl))
  simp only [Act.put, List.setIfInBounds_toArray, List.set_cons_zero, List.set_cons_succ]
  refine take_at 2 (v := ?_) (some 17) rfl rfl (by kernel_rfl) (by kernel_rfl) (by kernel_rfl) (fun _ _ _ h => h) (Or.inl ⟨by rfl, ?_⟩) hHeld ?_
  rotate_left
  · (intro w hSw; (try dsimp only at hSw); go_simp; (try with_reducible rfl))
  simp only [Act.put, List.setIfInBounds_toArray, List.set_cons_zero, List.set_cons_succ]
  refine take_at 4 (v := ?_) (some 19) rfl rfl (by kernel_rfl) (by kernel_rfl) (by kernel_rfl) (fun _ _ _ h => h) (Or.inl ⟨by rfl, ?_⟩) hHeld ?_
  rotate_left
  · (intro w hSw; (try dsimp only at hSw); go_simp; (try with_reducible rfl))
  simp only [Act.put, List.setIfInBounds_toArray, List.set_cons_zero, List.set_cons_succ]
  refine take_at 5 (v := ?_) (some 20) rfl rfl (by kernel_rfl) (by kernel_rfl) (by kernel_rfl) (fun _ _ _ h => h) (Or.inl ⟨by rfl, ?_⟩) hHeld ?_
  rotate_left
  · (intro w hSw; (try dsimp only at hSw); go_simp; (try with_reducible rfl))
  simp only [Act.put, List.setIfInBounds_toArray, List.set_cons_zero, List.set_cons_succ]
  refine wpAnyH_ready (rs := [3]) (by kernel_rfl) (by simp) ?_
  refine AllReadyH.cons rfl (fun K hK => ?_) AllReadyH.nil
  go_simp
  go_split_ands; refine (rboth_any 3 (fun x y => x && !y) (.inr (.inr ⟨rfl, rfl⟩)) _ _ a k _ (HA.out.below (show Below w.heap.size w _ by assumption)) (HK.out.below (show Below w.heap.size w _ by assumption)) b4 b2).mono ?_; rintro e w5 ⟨v5, rfl, hW5, hB⟩; rw [HF1.out] at hW5; have HW5 := Lib.hid hW5; obtain ⟨p5, c5, rfl⟩ := ws_len hW5; clear hW5
  go_wp2_with fail
  refine hK.out _ _ ?_ (fun hHeld => ?_)
  · (try dsimp only at hHeld ⊢)
    go_split_ands
    exact ⟨keepc (by assumption) hB, keepc (by assumption) hB, bel_then (by assumption) hB⟩
  clear hK K hB
  try simp only [Act.put, List.setIfInBounds_toArray, List.set_cons_zero, List.set_cons_succ]
  refine wpAnyH_ready (rs := [6]) (by kernel_rfl) (by simp) ?_
  refine AllReadyH.cons rfl (fun K hK => ?_) AllReadyH.nil
  go_simp
  go_split_ands; refine (rboth_any 1 (fun x y => x || y) (.inl ⟨rfl, rfl⟩) _ _ M g _ HW5.out (HG.out.below (show Below w.heap.size w _ by assumption)) HBL.out b1).mono ?_; rintro e w6 ⟨v6, rfl, hW6, hB⟩; rw [HF2.out] at hW6; have HW6 := Lib.hid hW6; obtain ⟨p6, c6, rfl⟩ := ws_len hW6; clear hW6
  go_wp2_with fail
  refine hK.out _ _ ?_ (fun hHeld => ?_)
  · (try dsimp only at hHeld ⊢)
    go_split_ands
    exact ⟨keepc (by assumption) hB, keepc (by assumption) hB, bel_then (by assumption) hB⟩
  clear hK K hB
  try simp only [Act.put, List.setIfInBounds_toArray, List.set_cons_zero, List.set_cons_succ]
  refine take_at 7 (v := ?_) (some 6) rfl rfl (by kernel_rfl) (by kernel_rfl) (by kernel_rfl) (fun _ _ _ h => h) (Or.inl ⟨by rfl, ?_⟩) hHeld ?_
  rotate_left
  · (intro w hSw; (try dsimp only at hSw); go_simp; (try with_reducible rfl))
  simp only [Act.put, List.setIfInBounds_toArray, List.set_cons_zero, List.set_cons_succ]
  refine wpAnyH_done (by kernel_rfl) ?_ _
  go_split_ands
  have BF := Lib.hid (show Below w.heap.size w w6 by assumption)
  go_wp2_with fail
  go_ret
  exact ⟨_, rfl, by rw [HE.out]; exact HW6.out, BF.out⟩

end Go.Proofs.Ytflkelnfdoihlaa

/-
  soughref16.Apply of words: its contract. Written by wip/gen/mkra.py.
-/
namespace Go.Proofs.Ytflkelnfdoihlaa
open Go.RowKit

set_option maxHeartbeats 12800000 in
set_option maxRecDepth 100000 in
theorem rapply_flat (width : Int) (vg vk vl va : Value) (gg kk a : List Nat) (L : List CodeT) (w : World) (h1 : Ws w vg gg) (h2 : Ws w vk kk) (h3 : Codes w vl L) (h4 : Ws w va a) (b3 : L.length ≤ 1000000) (b4 : a.length ≤ 100000) (hv : valueE 3 width a = true) (hct : checkT 3 width gg kk L = 0) :
    Calls Try.prog 36 #[.int .i64 3, .agg #[vg, vk, vl], va] w fun e w' => ∃ u, e = .returned u ∧ Ws w' u (applyE 3 width gg kk L a) ∧ Below w.heap.size w w' := by
  obtain ⟨i0, hi, hz0, hz1, hz2⟩ := info_parts u64_info
  have hmk := make_u64 a.length a.length rfl (by omega)
  have HZ := Lib.hid h4.1
  have HLn := Lib.hid (flat_len hv)
  have HIN := Lib.hid (show ∀ j, j < L.length → codeIn a.length (cdAt L j) from fun j hj => by
    rw [flat_len hv]; exact code_in (ct_flat_zero hct j hj))
  have HBT := Lib.hid (show bottomE 3 width = List.replicate a.length 0 by unfold bottomE; rw [if_neg (by omega), value_len hv])
  have HE1 := Lib.hid (show a.any (fun z => z == 0) = true → applyE 3 width gg kk L a = List.replicate a.length 0 from fun h => by unfold applyE; rw [if_pos rfl, if_pos h, HBT.out])
  have HE0 := Lib.hid (show a.any (fun z => z == 0) = false → applyE 3 width gg kk L a = doK a L L.length from fun h => by unfold applyE; rw [if_pos rfl, h, if_neg (by decide)])
  obtain ⟨pg, cg, rfl⟩ := ws_len h1
  obtain ⟨pk, ck, rfl⟩ := ws_len h2
  obtain ⟨pl, cl, rfl, hcl⟩ := h3
  have HC := Lib.hid hcl
  have B0 := Lib.hid ((Below.refl w.heap.size w).alloc (Nat.le_refl _) (.cells #[.slice pg gg.length cg, .slice pk kk.length ck, .slice pl L.length cl] 45))
  have K0 := Lib.hid (Bk.new w 45 [.slice pg gg.length cg, .slice pk kk.length ck, .slice pl L.length cl])
  have HU := Lib.hid (own_bare64 (w.alloc (.cells #[.slice pg gg.length cg, .slice pk kk.length ck, .slice pl L.length cl] 45)) w.heap.size (by simp))
  have HA4 := Lib.hid h4
  obtain ⟨pa, ca, rfl, hca⟩ := ws_row h4
  have HCA := Lib.hid hca
  clear h1 h2 h4 hcl hca hv hct
  have rest : ∀ (u : Value) (w1 : World), Own w1 w.heap.size u a → Below w.heap.size w w1 → Bk w1 w.heap.size 45 [.slice pg gg.length cg, .slice pk kk.length ck, .slice pl L.length cl] → True := fun _ _ _ _ _ => trivial
  clear rest
  by_cases hpos : 0 < a.length
  · obtain ⟨ad, rfl, hcc⟩ := HCA.out hpos
    have HQ := Lib.hid (show ∀ j u, (u64s a)[j]? = some u → (w.alloc (.cells #[.slice pg gg.length cg, .slice pk kk.length ck, .slice pl L.length cl] 45)).cell? (ad.add j) = some u from fun j u hj => by
      have hlt : j < a.length := by
        rcases Nat.lt_or_ge j a.length with h | h
        · exact h
        · rw [List.getElem?_eq_none (by simpa [u64s] using h)] at hj; cases hj
      rw [u64s_at a j hlt] at hj
      injection hj with hj
      subst hj
      exact keepc (hcc j hlt) B0.out)
    have hBx := (Below.refl (w.alloc (.cells #[.slice pg gg.length cg, .slice pk kk.length ck, .slice pl L.length cl] 45)).heap.size _).alloc (Nat.le_refl _) (.cells #[] 29)
    have HBx := Lib.hid hBx
    clear hBx
    simp only [World.size_alloc] at HU
    go_enter Try.func36, Try.ntmps36
    go_wp2_with (at_builtin; refine wpList_append_own _ rfl _ _ 22 rfl w.heap.size 29 i0 (.int .u64 0) 1 8 Try.underlying22 hi hz0 hz1 hz2 rfl (by decide) _ 0 [] rfl HU.out ad a.length ca (u64s a) rfl ?c1 ?c2 ?c3 ?c4 ?c5 ?c6 ?_)
    case c1 => simp [u64s]
    case c2 => exact fun j u hj => keepc (HQ.out j u hj) HBx.out
    case c3 => exact fun u hu => by obtain ⟨_, _, rfl⟩ := List.mem_map.1 hu; rfl
    case c4 => unfold maxLen; omega
    case c5 => omega
    case c6 => simp; omega
    intro v' w1 hown hgrow _
    have hO1 : Own w1 w.heap.size v' a := by unfold Own; simpa using hown
    have hB1 : Below w.heap.size w w1 := ((B0.out.alloc (by simp) (.cells #[] 29)).grown hgrow (by simp; omega) (fun k hk => (HU.out.lt k hk).1))
    have hK1 : Bk w1 w.heap.size 45 [.slice pg gg.length cg, .slice pk kk.length ck, .slice pl L.length cl] := (K0.out.below HBx.out).keep hgrow (by have := fun k hk => (HU.out.lt k hk); simp [Value.ownBlock])
    have HO := Lib.hid hO1
    have HB1 := Lib.hid hB1
    have HK1 := Lib.hid hK1
    clear hown hgrow
    have hg : ∃ g cap, v' = .slice (some ⟨g, 0, none⟩) a.length cap ∧ w.heap.size ≤ g := by
      obtain ⟨hl, ⟨_, h0⟩ | ⟨g, cap, cur, rfl, hg, _⟩⟩ := hO1
      · omega
      · exact ⟨g, cap, rfl, hg⟩
    obtain ⟨g, cap, rfl, hgB⟩ := hg
    clear hO1 hB1 hK1
    go_wp2_with fail
    go_loopw [27] (fun i wr => ∃ k : Nat, k ≤ a.length ∧ i = .int .i64 k ∧ Hid (∀ i, i < k → wAt a i ≠ 0) ∧ wr = w1)
      (fun i _ => a.length - (intOf i).toNat)
    case atStart => exact ⟨0, Nat.zero_le _, rfl, Lib.hid (fun i h => by omega), rfl⟩
    case round =>
      obtain ⟨k, hk, rfl, HA, rfl⟩ := hrel
      by_cases hlt : k < a.length
      · have hck := keepc (hcc k hlt) HB1.out
        rw [show a[k]?.getD 0 = wAt a k from rfl] at hck
        have hii : (k : Int) < a.length := by omega
        have HO1 := Lib.hid (any_one k hlt)
        have HS := Lib.hid (show wAt a k ≠ 0 → ∀ i, i < k + 1 → wAt a i ≠ 0 from fun e i hi => by
          rcases (show i < k ∨ i = k by omega) with h | rfl
          · exact HA.out i h
          · exact e)
        generalize wAt a k = z at *
        by_cases hz : z = 0
        · subst hz
          have HV := Lib.hid (HE1.out (HO1.out rfl))
          have HBf := Lib.hid (HB1.out.alloc HB1.out.size (.cells (Array.replicate a.length (Value.int .u64 0)) 29))
          go_wp2_with fail
          go_ret
          exact ⟨_, rfl, by rw [HV.out]; exact (zeros_bk' wr _).ws List.length_replicate (zeros_lt _), HBf.out⟩
        · have HS2 := Lib.hid (HS.out hz)
          have hzb : ((z : Int) == 0) = false := by simp; omega
          clear hz
          go_wp2_with fail
          go_roundw
          case rel => exact ⟨k + 1, by omega, by go_num, HS2, trivial⟩
          case measure => simp [intOf]; omega
      · obtain rfl : k = a.length := by omega
        have HV := Lib.hid (HE0.out (any_zero HA.out))
        have c2 := HK1.out.cell 2
        simp only [List.getElem?_cons_succ, List.getElem?_cons_zero] at c2
        clear hlt
        have hO0 : Own wr w.heap.size (.slice (some ⟨g, 0, none⟩) a.length cap) (doK a L 0) := HO.out
        have HO0 := Lib.hid hO0
        clear hO0 HO
        go_wp2_with fail
        go_loopw [40] (fun i wq => ∃ k : Nat, k ≤ L.length ∧ i = .int .i64 k ∧ Own wq w.heap.size (.slice (some ⟨g, 0, none⟩) a.length cap) (doK a L k) ∧ Below w.heap.size w wq)
          (fun i _ => L.length - (intOf i).toNat)
        case atStart => exact ⟨0, Nat.zero_le _, rfl, HO0.out, HB1.out⟩
        case round =>
          clear c2 HO0 HB1 HK1
          obtain ⟨k, hk, rfl, hO, hB⟩ := hrel
          have HB := Lib.hid hB
          have HO := Lib.hid hO
          clear hO hB
          by_cases hlt : k < L.length
          · obtain ⟨b, off, rfl, hd⟩ := HC.out (by omega)
            have hd := hd k hlt
            have hin := HIN.out k hlt
            have HS := Lib.hid (doK_succ a L k hlt)
            have hxl := doK_len a L k
            have HLT := Lib.hid (doK_lt HZ.out L k)
            generalize doK a L k = x at *
            generalize cdAt L k = cd at *
            obtain ⟨cv, co, av, ar, ai, bv, br, bi⟩ := cd
            have e0 := keepc (hd 0 _ rfl) HB.out
            have e1 := keepc (hd 1 _ rfl) HB.out
            have e2 := keepc (hd 2 _ rfl) HB.out
            have e3 := keepc (hd 3 _ rfl) HB.out
            have e4 := keepc (hd 4 _ rfl) HB.out
            have e5 := keepc (hd 5 _ rfl) HB.out
            have e6 := keepc (hd 6 _ rfl) HB.out
            have e7 := keepc (hd 7 _ rfl) HB.out
            simp only [Nat.add_zero] at e0
            obtain ⟨hv0, hv1, ho1, hrf⟩ := hin
            simp only at hv0 hv1 ho1 hrf
            obtain ⟨m, rfl⟩ : ∃ m : Nat, cv = m := ⟨cv.toNat, by omega⟩
            have hma : m < a.length := by omega
            have KC := Lib.hid (Bk.new wr 82 [.int .i64 (m : Nat), .int .i64 co, .int .i64 av, .int .i64 ar, .int .i64 ai, .int .i64 bv, .int .i64 br, .int .i64 bi])
            have hBa := (Below.refl wr.heap.size wr).alloc (Nat.le_refl _) (.cells #[.int .i64 (m : Nat), .int .i64 co, .int .i64 av, .int .i64 ar, .int .i64 ai, .int .i64 bv, .int .i64 br, .int .i64 bi] 82)
            have HB2 := Lib.hid (HB.out.alloc HB.out.size (.cells #[.int .i64 (m : Nat), .int .i64 co, .int .i64 av, .int .i64 ar, .int .i64 ai, .int .i64 bv, .int .i64 br, .int .i64 bi] 82))
            have HO := Lib.hid (own_below HO.out hBa)
            have HXL := Lib.hid hxl
            have hmi : (m : Int) < a.length := by omega
            clear hd hBa hxl hv0 hv1
            by_cases d5 : co = -1
            · subst d5
              have HS2 := Lib.hid (show doK a L (k + 1) = x.set m 1 by rw [HS.out]; unfold codeStep; simp)
              have hO2 := HO.out
              obtain ⟨_, ⟨hq, _⟩ | ⟨g', cap', cur, hq, hgB, hbk, _, _, hcs, hct⟩⟩ := hO2
              · cases hq
              injection hq with hq1 hq2 hq3
              injection hq1 with hq1
              injection hq1 with hq1
              subst hq1 hq3
              have HK3 := Lib.hid (show Bk (wr.alloc (.cells #[.int .i64 (m : Nat), .int .i64 (-1), .int .i64 av, .int .i64 ar, .int .i64 ai, .int .i64 bv, .int .i64 br, .int .i64 bi] 82)) g 29 cur.toList from hbk)
              have hxlen := HXL.out
              have hcell : ((wr.alloc (.cells #[.int .i64 (m : Nat), .int .i64 (-1), .int .i64 av, .int .i64 ar, .int .i64 ai, .int .i64 bv, .int .i64 br, .int .i64 bi] 82))).cell? ⟨g, m, none⟩ = some (.int .u64 (wAt x m : Nat)) := by
                rw [HK3.out.cell, ← u64s_at x m (by omega), ← hct, List.getElem?_take, if_pos (by omega)]
              have hfree := HK3.out.free m
              have HOs := Lib.hid (own_set (i := m) (u := .int .u64 ((1 : Nat) : Int)) (show World.ownsRow (wr.alloc (.cells #[.int .i64 (m : Nat), .int .i64 (-1), .int .i64 av, .int .i64 ar, .int .i64 ai, .int .i64 bv, .int .i64 br, .int .i64 bi] 82)) w.heap.size 29 1 (.slice (some ⟨g, 0, none⟩) a.length cap) a.length (u64s x) by have h := HO.out; unfold Own at h; rw [hxlen] at h; exact h) hma)
              rw [← u64s_set, ← HS2.out] at HOs
              have HDL := Lib.hid (doK_len a L (k + 1))
              generalize wAt x m = z at *
              clear hq2 hbk hct hcs hxlen
              go_wp2_with fail
              go_roundw
              case rel => exact ⟨k + 1, by omega, by go_num, by unfold Own; rw [HDL.out]; exact HOs.out, HB2.out.setCell (p := ⟨g, m, none⟩) hgB _⟩
              case measure => simp [intOf]; omega
            · have hge : 0 ≤ co := by omega
              obtain ⟨ra, rb⟩ : refIn a.length av ∧ refIn a.length bv := by rcases hrf with h | h; exact absurd h d5; exact h
              have RA := Lib.hid (show refIn x.length av by rw [HXL.out]; exact ra)
              have RB := Lib.hid (show refIn x.length bv by rw [HXL.out]; exact rb)
              have HXA := Lib.hid (show 0 ≤ ((wordR x av ar ai : Nat) : Int) ∧ ((wordR x av ar ai : Nat) : Int) ≤ 18446744073709551615 by have := wordR_lt HLT.out av ar ai; omega)
              have HXB := Lib.hid (show 0 ≤ ((wordR x bv br bi : Nat) : Int) ∧ ((wordR x bv br bi : Nat) : Int) ≤ 18446744073709551615 by have := wordR_lt HLT.out bv br bi; omega)
              have HCL := Lib.hid (cop_lt co (wordR x av ar ai) (wordR x bv br bi))
              have HS2 := Lib.hid (show doK a L (k + 1) = x.set m (cop co (wordR x av ar ai : Nat) (wordR x bv br bi : Nat)).toNat by rw [HS.out]; unfold codeStep; simp [d5])
              clear hrf ra rb d5
              generalize hxa : wordR x av ar ai = xa at *
              generalize hxb : wordR x bv br bi = xb at *
              have NXA := Lib.hid hxa
              have NXB := Lib.hid hxb
              clear hxa hxb
              have DA : ∀ v1, Own v1 w.heap.size (.slice (some ⟨g, 0, none⟩) a.length cap) x → Calls Try.prog 70 #[.slice (some ⟨g, 0, none⟩) a.length cap, .agg #[.int .i64 av, .int .i64 ar, .int .i64 ai]] v1 fun e w' => e = .returned (.int .u64 (xa : Nat)) ∧ Below v1.heap.size v1 w' := fun v1 ho => by
                rw [← NXA.out]; exact rword16_any av ar ai _ x v1 (Ws.of_owns ho HLT.out) RA.out
              have DB : ∀ v1, Own v1 w.heap.size (.slice (some ⟨g, 0, none⟩) a.length cap) x → Calls Try.prog 70 #[.slice (some ⟨g, 0, none⟩) a.length cap, .agg #[.int .i64 bv, .int .i64 br, .int .i64 bi]] v1 fun e w' => e = .returned (.int .u64 (xb : Nat)) ∧ Below v1.heap.size v1 w' := fun v1 ho => by
                rw [← NXB.out]; exact rword16_any bv br bi _ x v1 (Ws.of_owns ho HLT.out) RB.out
              have HDA := Lib.hid DA
              have HDB := Lib.hid DB
              clear DA DB
              go_wp2_with fail
              obtain ⟨n1, hn1⟩ : ∃ n1, n1 = wr.heap.size := ⟨_, rfl⟩
              obtain ⟨wc, hwc⟩ : ∃ wc, wc = wr.alloc (.cells #[.int .i64 (m : Nat), .int .i64 co, .int .i64 av, .int .i64 ar, .int .i64 ai, .int .i64 bv, .int .i64 br, .int .i64 bi] 82) := ⟨_, rfl⟩
              have KC2 : Bk wc n1 82 [.int .i64 (m : Nat), .int .i64 co, .int .i64 av, .int .i64 ar, .int .i64 ai, .int .i64 bv, .int .i64 br, .int .i64 bi] := by rw [hwc, hn1]; exact KC.out
              have HOc : Own wc w.heap.size (.slice (some ⟨g, 0, none⟩) a.length cap) x := by rw [hwc]; exact HO.out
              have HBc : Below w.heap.size w wc := by rw [hwc]; exact HB2.out
              rw [← hn1, ← hwc]
              clear KC HO HB2 hwc hn1 HB e0 e1 e2 e3 e4 e5 e6 e7
              have KC := Lib.hid KC2
              have HO := Lib.hid HOc
              have HB2 := Lib.hid HBc
              clear KC2 HOc HBc
              refine wp_region_held_drew (S := (fun w' => w'.cell? ⟨n1, 0, none⟩ = some (.int .i64 (m : Nat)) ∧ w'.cell? ⟨n1, 1, none⟩ = some (.int .i64 co) ∧ w'.cell? ⟨n1, 2, none⟩ = some (.int .i64 av) ∧ w'.cell? ⟨n1, 3, none⟩ = some (.int .i64 ar) ∧ w'.cell? ⟨n1, 4, none⟩ = some (.int .i64 ai) ∧ w'.cell? ⟨n1, 5, none⟩ = some (.int .i64 bv) ∧ w'.cell? ⟨n1, 6, none⟩ = some (.int .i64 br) ∧ w'.cell? ⟨n1, 7, none⟩ = some (.int .i64 bi) ∧ Below wc.heap.size wc w')) (by kernel_rfl) ?_ (fun hHeld => ?_)
              · exact ⟨KC.out.cell 0, KC.out.cell 1, KC.out.cell 2, KC.out.cell 3, KC.out.cell 4, KC.out.cell 5, KC.out.cell 6, KC.out.cell 7, (Below.refl _ _).drew⟩
              refine take_at 0 (v := ?_) (some 47) rfl rfl (by kernel_rfl) (by kernel_rfl) (by kernel_rfl) (fun _ _ _ h => h) (Or.inl ⟨by rfl, ?_⟩) hHeld ?_
              rotate_left
              · (intro w hSw; (try dsimp only at hSw); go_simp; (try with_reducible rfl))
              simp only [Act.put, List.setIfInBounds_toArray, List.set_cons_zero, List.set_cons_succ]
              refine take_at 1 (v := ?_) (some 48) rfl rfl (by kernel_rfl) (by kernel_rfl) (by kernel_rfl) (fun _ _ _ h => h) (Or.inl ⟨by rfl, ?_⟩) hHeld ?_
              rotate_left
              · (intro w hSw; (try dsimp only at hSw); go_simp; (try with_reducible rfl))
              simp only [Act.put, List.setIfInBounds_toArray, List.set_cons_zero, List.set_cons_succ]
              refine take_at 2 (v := ?_) (some 49) rfl rfl (by kernel_rfl) (by kernel_rfl) (by kernel_rfl) (fun _ _ _ h => h) (Or.inl ⟨by rfl, ?_⟩) hHeld ?_
              rotate_left
              · (intro w hSw; (try dsimp only at hSw); go_simp; (try with_reducible rfl))
              simp only [Act.put, List.setIfInBounds_toArray, List.set_cons_zero, List.set_cons_succ]
              refine take_at 3 (v := ?_) (some 50) rfl rfl (by kernel_rfl) (by kernel_rfl) (by kernel_rfl) (fun _ _ _ h => h) (Or.inl ⟨by rfl, ?_⟩) hHeld ?_
              rotate_left
              · (intro w hSw; (try dsimp only at hSw); go_simp; (try with_reducible rfl))
              simp only [Act.put, List.setIfInBounds_toArray, List.set_cons_zero, List.set_cons_succ]
              refine take_at 4 (v := ?_) (some 51) rfl rfl (by kernel_rfl) (by kernel_rfl) (by kernel_rfl) (fun _ _ _ h => h) (Or.inl ⟨by rfl, ?_⟩) hHeld ?_
              rotate_left
              · (intro w hSw; (try dsimp only at hSw); go_simp; (try with_reducible rfl))
              simp only [Act.put, List.setIfInBounds_toArray, List.set_cons_zero, List.set_cons_succ]
              refine take_at 6 (v := ?_) (some 53) rfl rfl (by kernel_rfl) (by kernel_rfl) (by kernel_rfl) (fun _ _ _ h => h) (Or.inl ⟨by rfl, ?_⟩) hHeld ?_
              rotate_left
              · (intro w hSw; (try dsimp only at hSw); go_simp; (try with_reducible rfl))
              simp only [Act.put, List.setIfInBounds_toArray, List.set_cons_zero, List.set_cons_succ]
              refine take_at 7 (v := ?_) (some 54) rfl rfl (by kernel_rfl) (by kernel_rfl) (by kernel_rfl) (fun _ _ _ h => h) (Or.inl ⟨by rfl, ?_⟩) hHeld ?_
              rotate_left
              · (intro w hSw; (try dsimp only at hSw); go_simp; (try with_reducible rfl))
              simp only [Act.put, List.setIfInBounds_toArray, List.set_cons_zero, List.set_cons_succ]
              refine take_at 8 (v := ?_) (some 55) rfl rfl (by kernel_rfl) (by kernel_rfl) (by kernel_rfl) (fun _ _ _ h => h) (Or.inl ⟨by rfl, ?_⟩) hHeld ?_
              rotate_left
              · (intro w hSw; (try dsimp only at hSw); go_simp; (try with_reducible rfl))
              simp only [Act.put, List.setIfInBounds_toArray, List.set_cons_zero, List.set_cons_succ]
              refine wpAnyH_ready (rs := [5]) (by kernel_rfl) (by simp) ?_
              refine AllReadyH.cons rfl (fun K hK => ?_) AllReadyH.nil
              go_simp
              go_split_ands; refine (HDA.out _ (own_below HO.out (show Below wc.heap.size wc _ by assumption))).mono ?_; rintro e v1 ⟨rfl, hB⟩
              go_wp2_with fail
              refine hK.out _ _ ?_ (fun hHeld => ?_)
              · (try dsimp only at hHeld ⊢)
                go_split_ands
                exact ⟨keepc (by assumption) hB, keepc (by assumption) hB, keepc (by assumption) hB, keepc (by assumption) hB, keepc (by assumption) hB, keepc (by assumption) hB, keepc (by assumption) hB, keepc (by assumption) hB, bel_then (by assumption) hB⟩
              clear hK K hB
              try simp only [Act.put, List.setIfInBounds_toArray, List.set_cons_zero, List.set_cons_succ]
              refine wpAnyH_ready (rs := [9]) (by kernel_rfl) (by simp) ?_
              refine AllReadyH.cons rfl (fun K hK => ?_) AllReadyH.nil
              go_simp
              go_split_ands; refine (HDB.out _ (own_below HO.out (show Below wc.heap.size wc _ by assumption))).mono ?_; rintro e v2 ⟨rfl, hB⟩
              go_wp2_with fail
              refine hK.out _ _ ?_ (fun hHeld => ?_)
              · (try dsimp only at hHeld ⊢)
                go_split_ands
                exact ⟨keepc (by assumption) hB, keepc (by assumption) hB, keepc (by assumption) hB, keepc (by assumption) hB, keepc (by assumption) hB, keepc (by assumption) hB, keepc (by assumption) hB, keepc (by assumption) hB, bel_then (by assumption) hB⟩
              clear hK K hB
              try simp only [Act.put, List.setIfInBounds_toArray, List.set_cons_zero, List.set_cons_succ]
              refine wpAnyH_ready (rs := [10]) (by kernel_rfl) (by simp) ?_
              refine AllReadyH.cons rfl (fun K hK => ?_) AllReadyH.nil
              go_simp
              go_at_call 69; refine (rcop_any _ _ _ _ HXA.out HXB.out).mono ?_; rintro e v3 ⟨rfl, hB⟩
              go_wp2_with fail
              refine hK.out _ _ ?_ (fun hHeld => ?_)
              · (try dsimp only at hHeld ⊢)
                go_split_ands
                exact ⟨keepc (by assumption) hB, keepc (by assumption) hB, keepc (by assumption) hB, keepc (by assumption) hB, keepc (by assumption) hB, keepc (by assumption) hB, keepc (by assumption) hB, keepc (by assumption) hB, bel_then (by assumption) hB⟩
              clear hK K hB
              try simp only [Act.put, List.setIfInBounds_toArray, List.set_cons_zero, List.set_cons_succ]
              refine take_at 11 (v := ?_) (some 12) rfl rfl (by kernel_rfl) (by kernel_rfl) (by kernel_rfl) (fun _ _ _ h => h) (Or.inl ⟨by rfl, ?_⟩) hHeld ?_
              rotate_left
              · (intro w hSw; (try dsimp only at hSw); go_simp; (try with_reducible rfl))
              simp only [Act.put, List.setIfInBounds_toArray, List.set_cons_zero, List.set_cons_succ]
              refine wpAnyH_done (by kernel_rfl) ?_ _
              go_split_ands
              have BF := Lib.hid (show Below wc.heap.size wc v3 by assumption)
              have q0 := (KC.out.below BF.out).cell 0
              simp only [List.getElem?_cons_zero] at q0
              have HO := Lib.hid (own_below HO.out BF.out)
              have HB3 := Lib.hid (HB2.out.trans (BF.out.mono HB2.out.size))
              have hO2 := HO.out
              obtain ⟨_, ⟨hq, _⟩ | ⟨g', cap', cur, hq, hgB, hbk, _, _, hcs, hct⟩⟩ := hO2
              · cases hq
              injection hq with hq1 hq2 hq3
              injection hq1 with hq1
              injection hq1 with hq1
              subst hq1 hq3
              have HK3 := Lib.hid (show Bk v3 g 29 cur.toList from hbk)
              have hxlen := HXL.out
              have hcell : (v3).cell? ⟨g, m, none⟩ = some (.int .u64 (wAt x m : Nat)) := by
                rw [HK3.out.cell, ← u64s_at x m (by omega), ← hct, List.getElem?_take, if_pos (by omega)]
              have hfree := HK3.out.free m
              have HOs := Lib.hid (own_set (i := m) (u := .int .u64 (cop co (xa : Nat) (xb : Nat))) (show World.ownsRow v3 w.heap.size 29 1 (.slice (some ⟨g, 0, none⟩) a.length cap) a.length (u64s x) by have h := HO.out; unfold Own at h; rw [hxlen] at h; exact h) hma)
              have HRc := Lib.hid (show (u64s x).set m (.int .u64 (cop co (xa : Nat) (xb : Nat))) = u64s (doK a L (k + 1)) by
                rw [HS2.out, u64s_set, show (((cop co (xa : Nat) (xb : Nat)).toNat : Nat) : Int) = cop co (xa : Nat) (xb : Nat) by have := HCL.out; omega])
              rw [HRc.out] at HOs
              have HDL := Lib.hid (doK_len a L (k + 1))
              generalize wAt x m = z at *
              clear hq2 hbk hct hcs hxlen
              go_wp2_with fail
              go_roundw
              case rel => exact ⟨k + 1, by omega, by go_num, by unfold Own; rw [HDL.out]; exact HOs.out, HB3.out.setCell (p := ⟨g, m, none⟩) hgB _⟩
              case measure => simp [intOf]; omega
          · obtain rfl : k = L.length := by omega
            have HW := Lib.hid (show Ws wr (.slice (some ⟨g, 0, none⟩) a.length cap) (doK a L L.length) from Ws.of_owns HO.out (doK_lt HZ.out L L.length))
            go_wp2_with fail
            go_ret
            exact ⟨_, rfl, by rw [HV.out]; exact HW.out, HB.out⟩
  · have ha0 : a = [] := List.eq_nil_of_length_eq_zero (by omega)
    subst ha0
    have hL0 : L.length = 0 := by
      rcases Nat.eq_zero_or_pos L.length with h | h
      · exact h
      · have := HIN.out 0 h
        unfold codeIn at this
        simp only [List.length_nil] at this
        omega
    obtain rfl : L = [] := List.eq_nil_of_length_eq_zero hL0
    have HV := Lib.hid (show applyE 3 width gg kk [] [] = [] from HE0.out rfl)
    simp only [World.size_alloc] at HU
    clear hmk hL0
    have hO1 : Own ((w.alloc (.cells #[.slice pg gg.length cg, .slice pk kk.length ck, .slice pl 0 cl] 45)).alloc (.cells #[] 29)) w.heap.size (.slice (some ⟨w.heap.size + 1, 0, none⟩) 0 0) [] := HU.out
    have hB1 := B0.out.alloc (by simp) (.cells #[] 29)
    have HK1 := Lib.hid (K0.out.alloc (.cells #[] 29))
    clear HU
    have hpa : (pa = none) ∨ (∃ ad, pa = some ad) := by cases pa; exact .inl rfl; exact .inr ⟨_, rfl⟩
    have HO := Lib.hid hO1
    have HB1 := Lib.hid hB1
    clear hO1 hB1
    rcases hpa with rfl | ⟨ad, rfl⟩
    · go_enter Try.func36, Try.ntmps36
      go_wp2_with fail
      generalize (w.alloc (.cells #[.slice pg gg.length cg, .slice pk kk.length ck, .slice pl 0 cl] 45)).alloc (.cells #[] 29) = w1 at *
      go_loopw [27] (fun i wr => i = .int .i64 0 ∧ wr = w1) (fun _ _ => 0)
      case atStart => exact ⟨rfl, rfl⟩
      case round =>
        obtain ⟨rfl, rfl⟩ := hrel
        have c2 := HK1.out.cell 2
        simp only [List.getElem?_cons_succ, List.getElem?_cons_zero] at c2
        go_wp2_with fail
        obtain ⟨w2, hw2⟩ : ∃ w2, w2 = wr := ⟨_, rfl⟩
        go_loopw [40] (fun i wq => i = .int .i64 0 ∧ wq = w2) (fun _ _ => 0)
        case atStart => exact ⟨rfl, hw2.symm⟩
        case round =>
          obtain ⟨rfl, rfl⟩ := hrel
          subst hw2
          have HW := Lib.hid (Ws.of_owns HO.out (by simp))
          go_wp2_with fail
          go_ret
          exact ⟨_, rfl, by rw [HV.out]; exact HW.out, HB1.out⟩
    · go_enter Try.func36, Try.ntmps36
      go_wp2_with fail
      generalize (w.alloc (.cells #[.slice pg gg.length cg, .slice pk kk.length ck, .slice pl 0 cl] 45)).alloc (.cells #[] 29) = w1 at *
      go_loopw [27] (fun i wr => i = .int .i64 0 ∧ wr = w1) (fun _ _ => 0)
      case atStart => exact ⟨rfl, rfl⟩
      case round =>
        obtain ⟨rfl, rfl⟩ := hrel
        have c2 := HK1.out.cell 2
        simp only [List.getElem?_cons_succ, List.getElem?_cons_zero] at c2
        go_wp2_with fail
        obtain ⟨w2, hw2⟩ : ∃ w2, w2 = wr := ⟨_, rfl⟩
        go_loopw [40] (fun i wq => i = .int .i64 0 ∧ wq = w2) (fun _ _ => 0)
        case atStart => exact ⟨rfl, hw2.symm⟩
        case round =>
          obtain ⟨rfl, rfl⟩ := hrel
          subst hw2
          have HW := Lib.hid (Ws.of_owns HO.out (by simp))
          go_wp2_with fail
          go_ret
          exact ⟨_, rfl, by rw [HV.out]; exact HW.out, HB1.out⟩

end Go.Proofs.Ytflkelnfdoihlaa

/-
  A Trans that came in by value: its lists.
-/
namespace Go.Proofs.Ytflkelnfdoihlaa
open Go.RowKit Go.ChangeShapes Go.WideShapes

section
variable {H : Type} {enc : TypeId × Value → H} {w : World} {base : Nat} {spare : Nat → Bool} {held : Bool} {fuel : Nat} {cs : List Value} {x : DataW H × List MemPlace}
set_option maxRecDepth 100000 in
theorem trod_ref (h : DataW.trod enc Try.prog w base spare held fuel 80 cs = some x) : ∃ v a b, cs = [.int .i64 v, .int .i64 a, .int .i64 b] := by
  obtain ⟨xs, n, _, rfl, hl, hx, hf⟩ := DataW.trod_struct Try.underlying80 h
  obtain ⟨y0, y1, rfl⟩ := list2 hx
  obtain ⟨v, e0, _⟩ := trod_i (hf 0 _ rfl)
  obtain ⟨a, b, e1, _⟩ := trod_num (hf 1 _ rfl)
  exact ⟨v, a, b, split_cells (a := 1) (b := 2) e0 e1 hl⟩
set_option maxRecDepth 100000 in
theorem trod_code (h : DataW.trod enc Try.prog w base spare held fuel 82 cs = some x) : ∃ c : CodeT, cs = ccells c := by
  obtain ⟨xs, n, _, rfl, hl, hx, hf⟩ := DataW.trod_struct Try.underlying82 h
  obtain ⟨y0, y1, y2, y3, rfl⟩ := list4 hx
  obtain ⟨v, e0, _⟩ := trod_i (hf 0 _ rfl)
  obtain ⟨o, e1, _⟩ := trod_i (hf 1 _ rfl)
  obtain ⟨av, ar, ai, e2⟩ := trod_ref (hf 2 _ rfl)
  obtain ⟨bv, br, bi, e3⟩ := trod_ref (hf 3 _ rfl)
  exact ⟨⟨v, o, av, ar, ai, bv, br, bi⟩, split_cells4 (a := 1) (b := 1) (c := 3) (d := 3) e0 e1 e2 e3 hl⟩
theorem words_in {u : Value} (h : DataW.trod enc Try.prog w base spare held fuel 22 [u] = some x) : ∃ L, Ws w u L ∧ L.length ≤ maxLen := by
  rcases Go.Deep.open_slice1 Try.underlying22 (by kernel_rfl) h with h1 | ⟨a, len, cap, m, k, V, D, Pl, hcs, _⟩
  · have h1 := h1.1
    simp only [List.cons.injEq, and_true] at h1
    subst h1
    exact words_of h
  · simp only [List.cons.injEq, and_true] at hcs
    subst hcs
    exact words_of h
set_option maxRecDepth 100000 in
theorem codes_in {u : Value} (h : DataW.trod enc Try.prog w base spare held fuel 43 [u] = some x) : ∃ L, Codes w u L ∧ L.length ≤ maxLen := by
  rcases Go.Deep.open_slice Try.underlying43 h with h | ⟨a, n, c, m, k, D, Pl, hcs, hb, hl, hm, hmm, hx, hi⟩
  · have h := h.1
    simp only [List.cons.injEq, and_true] at h
    subst h
    exact ⟨[], ⟨none, 0, rfl, by simp⟩, by simp⟩
  · simp only [List.cons.injEq, and_true] at hcs
    subst hcs
    have hC : Try.prog.cellsOf 82 = 8 := by kernel_rfl
    have hx : ∀ i, ∃ t : CodeT, i < n → a.spot = none ∧ ∀ q u, (ccells t)[q]? = some u → w.cell? ⟨a.block, a.off + i * 8 + q, none⟩ = some u := fun i => by
      by_cases hlt : i < n
      · have hn : n ≤ m := by rw [hmm]; split <;> omega
        have hsp : a.spot = none := by
          obtain ⟨cs', hc, ht'⟩ := hi 0 (by omega)
          rw [hC] at hc
          obtain ⟨_, hcl, hat⟩ := World.cells?_some hc
          have hfirst := hat 0 (by omega)
          rw [List.getElem?_eq_getElem (by omega)] at hfirst
          have := spot_of hfirst
          simpa [Addr.add] using this
        obtain ⟨cs', hc, ht'⟩ := hi i (by omega)
        rw [hC] at hc
        obtain ⟨_, hcl, hat⟩ := World.cells?_some hc
        obtain ⟨t, rfl⟩ := trod_code ht'
        refine ⟨t, fun _ => ⟨hsp, fun q u hq => ?_⟩⟩
        have hq8 : q < 8 := by
          rcases Nat.lt_or_ge q 8 with h | h
          · exact h
          · rw [List.getElem?_eq_none (by simp [ccells]; exact h)] at hq; cases hq
        have := hat q hq8
        rw [Go.Deep.add_add, add_plain _ _ hsp, hq] at this
        rw [Nat.add_assoc]
        exact this
      · exact ⟨⟨0, 0, 0, 0, 0, 0, 0, 0⟩, fun h => absurd h hlt⟩
    refine ⟨(List.range n).map fun i => (hx i).choose, ⟨some a, c, by simp, fun h0 => ?_⟩, by simp; omega⟩
    have hsp : a.spot = none := ((hx 0).choose_spec (by simpa using h0)).1
    refine ⟨a.block, a.off, by cases a; simp at hsp; subst hsp; rfl, fun j hj => ?_⟩
    have hj' : j < n := by simpa using hj
    have e : cdAt ((List.range n).map fun i => (hx i).choose) j = (hx j).choose := by
      unfold cdAt
      rw [List.getElem?_map, List.getElem?_range hj']
      rfl
    rw [e]
    exact ((hx j).choose_spec hj').2
end

set_option maxRecDepth 100000 in
theorem trans_in {H : Type} {enc : TypeId × Value → H} {W : World} {r : Reach} {b0 base : Nat} {spare : Nat → Bool} {held : Bool} {v : Value} {d : DataW H} {p : List MemPlace}
    (hv : Value.okWide Try.prog W r b0 45 v) (h : DataW.Trod enc Try.prog W base spare held 45 v d p) :
    ∃ (u1 u2 u3 : Value) (g k : List Nat) (L : List CodeT), v = .agg #[u1, u2, u3] ∧ (Ws W u1 g ∧ Ws W u2 k ∧ Codes W u3 L) ∧ (g.length ≤ maxLen ∧ k.length ≤ maxLen ∧ L.length ≤ maxLen) := by
  obtain ⟨cs, rfl, _⟩ := okWide_struct Try.underlying45 hv
  obtain ⟨fuel, hf⟩ := h
  obtain ⟨xs, n, _, _, hl, hx, hf⟩ := DataW.trod_struct Try.underlying45 hf
  obtain ⟨y0, y1, y2, rfl⟩ := list3 hx
  have hl3 : (Value.agg cs).cells.toList.length = 3 := hl
  obtain ⟨u1, u2, u3, hcs⟩ := list3 hl3
  have h0 := hf 0 _ rfl
  have h1 := hf 1 _ rfl
  have h2 := hf 2 _ rfl
  rw [hcs] at h0 h1 h2
  obtain ⟨g, r1, m1⟩ := words_in (u := u1) h0
  obtain ⟨k, r2, m2⟩ := words_in (u := u2) h1
  obtain ⟨L, r3, m3⟩ := codes_in (u := u3) h2
  exact ⟨u1, u2, u3, g, k, L, agg_cells' hcs, ⟨r1, r2, r3⟩, ⟨m1, m2, m3⟩⟩

end Go.Proofs.Ytflkelnfdoihlaa

/-
  soughlaw16.awake, few; soughref16.Small: contracts.
-/
namespace Go.Proofs.Ytflkelnfdoihlaa
open Go.RowKit

def smallT (g k : List Nat) (L : List CodeT) : Bool := decide (g.length ≤ 17) && (decide (k.length ≤ 17) && decide (L.length ≤ 40))
set_option maxHeartbeats 1600000 in
set_option maxRecDepth 100000 in
theorem small_any (vg vk vl : Value) (g k : List Nat) (L : List CodeT) (w : World) (h1 : Ws w vg g) (h2 : Ws w vk k) (h3 : Codes w vl L) (m1 : g.length ≤ 9223372036854775807) (m2 : k.length ≤ 9223372036854775807) (m3 : L.length ≤ 9223372036854775807) :
    Calls Try.prog 60 #[.agg #[vg, vk, vl]] w fun e w' => e = .returned (.bool (smallT g k L)) ∧ Below w.heap.size w w' := by
  obtain ⟨pg, cg, rfl⟩ := ws_len h1
  obtain ⟨pk, ck, rfl⟩ := ws_len h2
  obtain ⟨pl, cl, rfl⟩ := h3.len
  have B0 := Lib.hid ((Below.refl w.heap.size w).alloc (Nat.le_refl _) (.cells #[.slice pg g.length cg, .slice pk k.length ck, .slice pl L.length cl] 45))
  clear h1 h2 h3
  by_cases hg : g.length ≤ 17
  · by_cases hk : k.length ≤ 17
    · have H := Lib.hid (show smallT g k L = decide (L.length ≤ 40) by unfold smallT; rw [decide_eq_true hg, decide_eq_true hk]; rfl)
      by_cases hl : L.length ≤ 40
      · have H2 := Lib.hid (show smallT g k L = true by rw [H.out, decide_eq_true hl])
        go_enter Try.func60, Try.ntmps60
        go_wp2
        go_ret
        exact ⟨ret_bool (by rw [H2.out]; simp; omega), B0.out⟩
      · have H2 := Lib.hid (show smallT g k L = false by rw [H.out, decide_eq_false hl])
        go_enter Try.func60, Try.ntmps60
        go_wp2
        go_ret
        exact ⟨ret_bool (by rw [H2.out]; simp; omega), B0.out⟩
    · have H := Lib.hid (show smallT g k L = false by unfold smallT; rw [decide_eq_false hk]; simp)
      go_enter Try.func60, Try.ntmps60
      go_wp2
      go_ret
      exact ⟨ret_bool H.out.symm, B0.out⟩
  · have H := Lib.hid (show smallT g k L = false by unfold smallT; rw [decide_eq_false hg]; rfl)
    go_enter Try.func60, Try.ntmps60
    go_wp2
    go_ret
    exact ⟨ret_bool H.out.symm, B0.out⟩

theorem small_iff {g k : List Nat} {L : List CodeT} (h : smallT g k L = true) : g.length ≤ 17 ∧ k.length ≤ 17 ∧ L.length ≤ 40 := by
  unfold smallT at h
  rw [Bool.and_eq_true, Bool.and_eq_true, decide_eq_true_eq, decide_eq_true_eq, decide_eq_true_eq] at h
  exact h
/-- Whether all is short enough to look at. -/
def fewT (width : Int) (s t : Bool) (a b : List Nat) : Bool := (decide (width ≤ 70) || decide (1024 < width)) && (s && (t && (decide (a.length ≤ 70) && decide (b.length ≤ 70))))
theorem fewT_iff {width : Int} {s t : Bool} {a b : List Nat} (h : fewT width s t a b = true) : (width ≤ 70 ∨ 1024 < width) ∧ s = true ∧ t = true ∧ a.length ≤ 70 ∧ b.length ≤ 70 := by
  unfold fewT at h
  rw [Bool.and_eq_true, Bool.and_eq_true, Bool.and_eq_true, Bool.and_eq_true, Bool.or_eq_true, decide_eq_true_eq, decide_eq_true_eq, decide_eq_true_eq, decide_eq_true_eq] at h
  exact h

set_option maxHeartbeats 3200000 in
set_option maxRecDepth 100000 in
theorem tfew_any (width : Int) (vg vk vl vg2 vk2 vl2 va vb : Value) (g k g2 k2 a b : List Nat) (L L2 : List CodeT) (w : World) (h1 : Ws w vg g) (h2 : Ws w vk k) (h3 : Codes w vl L) (h4 : Ws w vg2 g2) (h5 : Ws w vk2 k2) (h6 : Codes w vl2 L2) (h7 : Ws w va a) (h8 : Ws w vb b)
    (m1 : g.length ≤ 9223372036854775807) (m2 : k.length ≤ 9223372036854775807) (m3 : L.length ≤ 9223372036854775807) (m4 : g2.length ≤ 9223372036854775807) (m5 : k2.length ≤ 9223372036854775807) (m6 : L2.length ≤ 9223372036854775807) (m7 : a.length ≤ 9223372036854775807) (m8 : b.length ≤ 9223372036854775807) :
    Calls Try.prog 32 #[.int .i64 width, .agg #[vg, vk, vl], .agg #[vg2, vk2, vl2], va, vb] w fun e w' => e = .returned (.bool (fewT width (smallT g k L) (smallT g2 k2 L2) a b)) ∧ Below w.heap.size w w' := by
  have H1 := Lib.hid h1
  have H2 := Lib.hid h2
  have H3 := Lib.hid h3
  have H4 := Lib.hid h4
  have H5 := Lib.hid h5
  have H6 := Lib.hid h6
  obtain ⟨pg, cg, rfl⟩ := ws_len h1
  obtain ⟨pk, ck, rfl⟩ := ws_len h2
  obtain ⟨pl, cl, rfl⟩ := h3.len
  obtain ⟨pg2, cg2, rfl⟩ := ws_len h4
  obtain ⟨pk2, ck2, rfl⟩ := ws_len h5
  obtain ⟨pl2, cl2, rfl⟩ := h6.len
  obtain ⟨pa, ca, rfl⟩ := ws_len h7
  obtain ⟨pb, cb, rfl⟩ := ws_len h8
  have B0 := Lib.hid (((Below.refl w.heap.size w).alloc (Nat.le_refl _) (.cells #[.slice pg g.length cg, .slice pk k.length ck, .slice pl L.length cl] 45)).alloc (by simp) (.cells #[.slice pg2 g2.length cg2, .slice pk2 k2.length ck2, .slice pl2 L2.length cl2] 45))
  have KT := Lib.hid (Bk.new' (w.alloc (.cells #[.slice pg g.length cg, .slice pk k.length ck, .slice pl L.length cl] 45)) 45 [.slice pg2 g2.length cg2, .slice pk2 k2.length ck2, .slice pl2 L2.length cl2] (g := w.heap.size + 1) (by simp))
  have HD := Lib.hid (show fewT width (smallT g k L) (smallT g2 k2 L2) a b = ((decide (width ≤ 70) || decide (1024 < width)) && (smallT g k L && (smallT g2 k2 L2 && (decide (a.length ≤ 70) && decide (b.length ≤ 70))))) from rfl)
  clear h1 h2 h3 h4 h5 h6 h7 h8
  obtain ⟨F, hF⟩ : ∃ F, F = fewT width (smallT g k L) (smallT g2 k2 L2) a b := ⟨_, rfl⟩
  rw [← hF] at HD ⊢
  clear hF
  obtain ⟨s1, hs1⟩ : ∃ z, z = smallT g k L := ⟨_, rfl⟩
  obtain ⟨s2, hs2⟩ : ∃ z, z = smallT g2 k2 L2 := ⟨_, rfl⟩
  have NS1 := Lib.hid hs1
  have NS2 := Lib.hid hs2
  rw [← hs1, ← hs2] at HD
  clear hs1 hs2
  go_enter Try.func32, Try.ntmps32
  by_cases hwd : width ≤ 70 ∨ 1024 < width
  · have HD1 := Lib.hid (show F = (s1 && (s2 && (decide (a.length ≤ 70) && decide (b.length ≤ 70)))) by
      rw [HD.out, show (decide (width ≤ 70) || decide (1024 < width)) = true by rw [Bool.or_eq_true, decide_eq_true_eq, decide_eq_true_eq]; exact hwd]; rfl)
    have hwd2 : width ≤ 70 ∨ (70 < width ∧ 1024 < width) := by omega
    clear hwd
    rcases hwd2 with hq | ⟨hq, hq2⟩
    all_goals
      go_wp2_with fail
      refine (small_any _ _ _ g k L _ (H1.out.below B0.out) (H2.out.below B0.out) (H3.out.below B0.out) m1 m2 m3).mono ?_
      rintro e w1 ⟨rfl, hB⟩
      rw [← NS1.out]
      have B1 := Lib.hid (B0.out.trans (hB.mono B0.out.size))
      have K1 := Lib.hid (KT.out.below hB)
      have c0 := K1.out.cell 0
      have c1 := K1.out.cell 1
      have c2 := K1.out.cell 2
      simp only [List.getElem?_cons_succ, List.getElem?_cons_zero] at c0 c1 c2
      clear hB
      cases s1 with
      | false =>
        go_wp2_with fail
        go_ret
        exact ⟨ret_bool (by rw [HD1.out]; rfl), B1.out⟩
      | true =>
        go_wp2_with fail
        refine (small_any _ _ _ g2 k2 L2 _ (H4.out.below B1.out) (H5.out.below B1.out) (H6.out.below B1.out) m4 m5 m6).mono ?_
        rintro e w2 ⟨rfl, hB⟩
        rw [← NS2.out]
        have B2 := Lib.hid (B1.out.trans (hB.mono B1.out.size))
        clear hB
        cases s2 with
        | false =>
          go_wp2_with fail
          go_ret
          exact ⟨ret_bool (by rw [HD1.out]; rfl), B2.out⟩
        | true =>
          by_cases ha : a.length ≤ 70
          · have HD2 := Lib.hid (show F = decide (b.length ≤ 70) by rw [HD1.out, decide_eq_true ha]; rfl)
            by_cases hb : b.length ≤ 70
            · have HD3 := Lib.hid (show F = true by rw [HD2.out, decide_eq_true hb])
              go_wp2_with fail
              go_ret
              exact ⟨ret_bool (by rw [HD3.out]; simp; omega), B2.out⟩
            · have HD3 := Lib.hid (show F = false by rw [HD2.out, decide_eq_false hb])
              go_wp2_with fail
              go_ret
              exact ⟨ret_bool (by rw [HD3.out]; simp; omega), B2.out⟩
          · have HD2 := Lib.hid (show F = false by rw [HD1.out, decide_eq_false ha]; rfl)
            go_wp2_with fail
            go_ret
            exact ⟨ret_bool HD2.out.symm, B2.out⟩
  · have HD1 := Lib.hid (show F = false by
      rw [HD.out, show (decide (width ≤ 70) || decide (1024 < width)) = false by rw [Bool.or_eq_false_iff, decide_eq_false_iff_not, decide_eq_false_iff_not]; omega]; rfl)
    have hw1 : 70 < width := by omega
    have hw2 : width ≤ 1024 := by omega
    clear hwd
    go_wp2_with fail
    go_ret
    exact ⟨ret_bool HD1.out.symm, B0.out⟩

theorem rapply_any (what width : Int) (vg vk vl va : Value) (g k a : List Nat) (L : List CodeT) (w : World) (h1 : Ws w vg g) (h2 : Ws w vk k) (h3 : Codes w vl L) (h4 : Ws w va a) (b1 : g.length ≤ 1000) (b2 : k.length ≤ 1000) (b3 : L.length ≤ 1000000) (b4 : a.length ≤ 1000) (hv : valueE what width a = true) (hct : checkT what width g k L = 0) :
    Calls Try.prog 36 #[.int .i64 what, .agg #[vg, vk, vl], va] w fun e w' => ∃ u, e = .returned u ∧ Ws w' u (applyE what width g k L a) ∧ Below w.heap.size w w' := by
  by_cases h : what = 3
  · subst h
    exact rapply_flat width vg vk vl va g k a L w h1 h2 h3 h4 b3 (by omega) hv hct
  · exact rapply_set what width vg vk vl va g k a L w h1 h2 h3 h4 b1 b2 b4 h
theorem applyE_len {what width : Int} {g k a : List Nat} {L : List CodeT} (hg : g.length ≤ 70) (hk : k.length ≤ 70) (ha : a.length ≤ 70) : (applyE what width g k L a).length ≤ 1024 := by
  unfold applyE
  split
  · split
    · rw [bottom_len]; exact wordsN_le 3 width
    · rw [doK_len]; omega
  · rw [bothE_len, bothE_len]; omega

theorem aw_c : applyC 1 4 [2] [4] [] [12] = 0 := by decide +kernel
theorem aw_r : applyR 1 4 [2] [4] [] [12] = [10] := by decide +kernel
theorem ws_one (w : World) (z : Nat) (h : z < 18446744073709551616) : Ws (w.alloc (.cells #[.int .u64 (z : Nat)] 29)) (.slice (some ⟨w.heap.size, 0, none⟩) 1 1) [z] :=
  Bk.ws (a := [z]) (show Bk _ _ _ (u64s [z]) from Bk.new w 29 [.int .u64 (z : Nat)]) rfl (by intro y hy; rw [List.mem_singleton.1 hy]; exact h)

set_option maxHeartbeats 1600000 in
set_option maxRecDepth 100000 in
theorem tawake_any (w : World) :
    Calls Try.prog 31 #[] w fun e w' => e = .returned (.bool true) ∧ Below w.heap.size w w' := by
  have b1 : Below w.heap.size w (w.alloc (.cells #[.int .u64 2] 29)) := (Below.refl _ _).alloc (Nat.le_refl _) _
  have b2 : Below w.heap.size w ((w.alloc (.cells #[.int .u64 2] 29)).alloc (.cells #[.int .u64 4] 29)) := b1.alloc (by simp) _
  have b3 : Below w.heap.size w (((w.alloc (.cells #[.int .u64 2] 29)).alloc (.cells #[.int .u64 4] 29)).alloc (.cells #[.int .u64 12] 29)) := b2.alloc (by simp; omega) _
  have s1 : Ws (((w.alloc (.cells #[.int .u64 2] 29)).alloc (.cells #[.int .u64 4] 29)).alloc (.cells #[.int .u64 12] 29)) (.slice (some ⟨w.heap.size, 0, none⟩) 1 1) [2] :=
    ((ws_one w 2 (by decide)).below ((Below.refl _ _).alloc (Nat.le_refl _) _)).below ((Below.refl _ _).alloc (Nat.le_refl _) _)
  have s2 := (ws_one (w.alloc (.cells #[.int .u64 2] 29)) 4 (by decide)).below ((Below.refl _ _).alloc (Nat.le_refl _) (.cells #[.int .u64 12] 29))
  have s3 := ws_one ((w.alloc (.cells #[.int .u64 2] 29)).alloc (.cells #[.int .u64 4] 29)) 12 (by decide)
  simp only [World.size_alloc] at s2 s3
  have S1 := Lib.hid s1
  have S2 := Lib.hid s2
  have S3 := Lib.hid s3
  have B3 := Lib.hid b3
  clear b1 b2 b3 s1 s2 s3
  go_enter Try.func31, Try.ntmps31
  go_wp2_with fail
  refine (tapply_any 1 4 _ _ _ _ [2] [4] [12] [] _ S1.out S2.out ⟨none, 0, rfl, by simp⟩ S3.out (by decide) (by decide) (by decide) (by decide)).mono ?_
  rintro e w1 ⟨u, rfl, hW, hB⟩
  rw [aw_r] at hW
  rw [aw_c]
  have HB := Lib.hid (B3.out.trans (hB.mono B3.out.size))
  obtain ⟨p, c, rfl, q⟩ := ws_row hW
  obtain ⟨ad, rfl, r⟩ := q (by decide)
  have hcell : w1.cell? ad = some (.int .u64 10) := by
    have h := r 0 (by decide)
    rw [show ad.add 0 = ad by cases ad with | mk b o s => cases s <;> rfl] at h
    exact h
  clear hW hB q r
  go_wp2_with fail
  go_ret
  exact ⟨ret_bool (by first | rfl | simp), HB.out⟩

end Go.Proofs.Ytflkelnfdoihlaa

/-
  The law TransferApplies: its walk. Written by wip/gen/mktr.py.
-/
namespace Go.Proofs.Ytflkelnfdoihlaa
open Go.RowKit

set_option maxHeartbeats 25600000 in
set_option maxRecDepth 100000 in
theorem transferApplies_walk (what width : Int) (vG vK vL vA : Value) (G K A : List Nat) (L : List CodeT) (w : World) (hG : Ws w vG G) (hK : Ws w vK K) (hL : Codes w vL L) (hA : Ws w vA A) (mG : G.length ≤ maxLen) (mK : K.length ≤ maxLen) (mL : L.length ≤ maxLen) (mA : A.length ≤ maxLen) :
    Calls Try.prog 6 #[.int .i64 what, .int .i64 width, .agg #[vG, vK, vL], vA] w fun e w' => e = .returned (.bool true) ∧ Below w.heap.size w w' := by
  have mG : G.length ≤ 9223372036854775807 := mG
  have mK : K.length ≤ 9223372036854775807 := mK
  have mL : L.length ≤ 9223372036854775807 := mL
  have mA : A.length ≤ 9223372036854775807 := mA
  have HG := Lib.hid hG
  have HK := Lib.hid hK
  have HL := Lib.hid hL
  have HA := Lib.hid hA
  have QG := Lib.hid hG.1
  obtain ⟨pG, cG, rfl⟩ := ws_len hG
  have QK := Lib.hid hK.1
  obtain ⟨pK, cK, rfl⟩ := ws_len hK
  have QA := Lib.hid hA.1
  obtain ⟨pA, cA, rfl⟩ := ws_len hA
  obtain ⟨pL, cL, rfl⟩ := hL.len
  have KS := Lib.hid (Bk.new w 45 [.slice pG G.length cG, .slice pK K.length cK, .slice pL L.length cL])
  have hB := (Below.refl w.heap.size w).alloc (Nat.le_refl _) (.cells #[.slice pG G.length cG, .slice pK K.length cK, .slice pL L.length cL] 45)
  have BB := Lib.hid hB
  have HG := Lib.hid (HG.out.below hB)
  have HK := Lib.hid (HK.out.below hB)
  have HL := Lib.hid (HL.out.below hB)
  have HA := Lib.hid (HA.out.below hB)
  clear hB hG hK hL hA
  go_enter Try.func6, Try.ntmps6
  go_wp2_with fail
  refine (tawake_any _).mono ?_
  rintro e w1 ⟨rfl, hB⟩
  have BB := Lib.hid (BB.out.trans (hB.mono BB.out.size))
  have HG := Lib.hid (HG.out.below hB)
  have HK := Lib.hid (HK.out.below hB)
  have HL := Lib.hid (HL.out.below hB)
  have KS := Lib.hid (KS.out.below hB)
  have HA := Lib.hid (HA.out.below hB)
  clear hB
  have c0 := KS.out.cell 0
  have c1 := KS.out.cell 1
  have c2 := KS.out.cell 2
  simp only [List.getElem?_cons_succ, List.getElem?_cons_zero] at c0 c1 c2
  go_wp2_with fail
  refine (tfew_any width _ _ _ _ _ _ _ _ G K G K A A L L _ HG.out HK.out HL.out HG.out HK.out HL.out HA.out HA.out mG mK mL mG mK mL mA mA).mono ?_
  rintro e w2 ⟨rfl, hB⟩
  have BB := Lib.hid (BB.out.trans (hB.mono BB.out.size))
  have HG := Lib.hid (HG.out.below hB)
  have HK := Lib.hid (HK.out.below hB)
  have HL := Lib.hid (HL.out.below hB)
  have KS := Lib.hid (KS.out.below hB)
  have HA := Lib.hid (HA.out.below hB)
  clear hB c0 c1 c2
  cases hfw : fewT width (smallT G K L) (smallT G K L) A A with
  | false =>
    clear hfw
    go_wp2_with fail
    go_ret
    exact ⟨rfl, BB.out⟩
  | true =>
    obtain ⟨hwd, hs, _, lA, lA2⟩ := fewT_iff hfw
    obtain ⟨lG, lK, lL⟩ := small_iff hs
    have HWD := Lib.hid hwd
    clear hwd hs hfw
    have c0 := KS.out.cell 0
    have c1 := KS.out.cell 1
    have c2 := KS.out.cell 2
    simp only [List.getElem?_cons_succ, List.getElem?_cons_zero] at c0 c1 c2
    go_wp2_with fail
    refine (tapply_any what width _ _ _ _ G K A L _ HG.out HK.out HL.out HA.out (by omega) (by omega) (by omega) (by omega)).mono ?_
    rintro e w3 ⟨vC, rfl, hW, hB⟩
    have BB := Lib.hid (BB.out.trans (hB.mono BB.out.size))
    have HG := Lib.hid (HG.out.below hB)
    have HK := Lib.hid (HK.out.below hB)
    have HL := Lib.hid (HL.out.below hB)
    have KS := Lib.hid (KS.out.below hB)
    have HA := Lib.hid (HA.out.below hB)
    obtain ⟨ce, hce⟩ : ∃ z, z = applyC what width G K L A := ⟨_, rfl⟩
    rw [← hce]
    have NCE := Lib.hid hce
    obtain ⟨C, hC⟩ : ∃ z, z = applyR what width G K L A := ⟨_, rfl⟩
    rw [← hC] at hW
    have EC := Lib.hid hC
    have HC := Lib.hid hW
    obtain ⟨pC, cC, rfl⟩ := ws_len hW
    clear hW hB hC hce c0 c1 c2
    have c0 := KS.out.cell 0
    have c1 := KS.out.cell 1
    have c2 := KS.out.cell 2
    simp only [List.getElem?_cons_succ, List.getElem?_cons_zero] at c0 c1 c2
    go_wp2_with fail
    refine (rtcheck_any what width _ _ _ G K L _ HG.out HK.out HL.out (by omega) (by omega) (by omega)).mono ?_
    rintro e w4 ⟨rfl, hB⟩
    have BB := Lib.hid (BB.out.trans (hB.mono BB.out.size))
    have HG := Lib.hid (HG.out.below hB)
    have HK := Lib.hid (HK.out.below hB)
    have HL := Lib.hid (HL.out.below hB)
    have KS := Lib.hid (KS.out.below hB)
    have HA := Lib.hid (HA.out.below hB)
    have HC := Lib.hid (HC.out.below hB)
    clear hB c0 c1 c2
    obtain ⟨ct, hct⟩ : ∃ z, z = checkT what width G K L := ⟨_, rfl⟩
    rw [← hct]
    have NCT := Lib.hid hct
    clear hct
    by_cases h0 : ct = 0
    · have HZ0 := Lib.hid (show checkT what width G K L = 0 by rw [← NCT.out]; exact h0)
      subst h0
      have c0 := KS.out.cell 0
      have c1 := KS.out.cell 1
      have c2 := KS.out.cell 2
      simp only [List.getElem?_cons_succ, List.getElem?_cons_zero] at c0 c1 c2
      go_wp2_with fail
      refine (tcheck_any what width _ _ _ G K L _ HG.out HK.out HL.out (by omega) (by omega) (by omega)).mono ?_
      rintro e w5 ⟨rfl, hB⟩
      have BB := Lib.hid (BB.out.trans (hB.mono BB.out.size))
      have HG := Lib.hid (HG.out.below hB)
      have HK := Lib.hid (HK.out.below hB)
      have HL := Lib.hid (HL.out.below hB)
      have KS := Lib.hid (KS.out.below hB)
      have HA := Lib.hid (HA.out.below hB)
      have HC := Lib.hid (HC.out.below hB)
      clear hB c0 c1 c2
      rw [HZ0.out]
      go_wp2_with fail
      refine (rval_any what width _ A _ HA.out (by omega)).mono ?_
      rintro e w6 ⟨rfl, hB⟩
      have BB := Lib.hid (BB.out.trans (hB.mono BB.out.size))
      have HG := Lib.hid (HG.out.below hB)
      have HK := Lib.hid (HK.out.below hB)
      have HL := Lib.hid (HL.out.below hB)
      have KS := Lib.hid (KS.out.below hB)
      have HA := Lib.hid (HA.out.below hB)
      have HC := Lib.hid (HC.out.below hB)
      clear hB
      cases hv : valueE what width A with
      | false =>
        have e1 : ce = 2 := by rw [NCE.out]; unfold applyC; rw [if_pos HZ0.out, hv, if_neg (by decide)]
        have e2 : C = [] := by rw [EC.out]; unfold applyR applyC; rw [if_pos HZ0.out, hv, if_neg (by decide)]
        subst e1 e2
        clear hv
        go_wp2_with fail
        go_ret
        exact ⟨rfl, BB.out⟩
      | true =>
        have e1 : ce = 0 := by rw [NCE.out]; unfold applyC; rw [if_pos HZ0.out, hv, if_pos rfl]
        have e2 : C = applyE what width G K L A := by rw [EC.out]; unfold applyR applyC; rw [if_pos HZ0.out, hv, if_pos rfl, if_pos rfl]
        have HV := Lib.hid hv
        have EC2 := Lib.hid e2
        have lC : C.length ≤ 1024 := by rw [e2]; exact applyE_len (by omega) (by omega) lA
        subst e1
        clear hv e2
        have c0 := KS.out.cell 0
        have c1 := KS.out.cell 1
        have c2 := KS.out.cell 2
        simp only [List.getElem?_cons_succ, List.getElem?_cons_zero] at c0 c1 c2
        go_wp2_with fail
        refine (rapply_any what width _ _ _ _ G K A L _ HG.out HK.out HL.out HA.out (by omega) (by omega) (by omega) (by omega) HV.out HZ0.out).mono ?_
        rintro e w7 ⟨vD, rfl, hW, hB⟩
        have BB := Lib.hid (BB.out.trans (hB.mono BB.out.size))
        have HG := Lib.hid (HG.out.below hB)
        have HK := Lib.hid (HK.out.below hB)
        have HL := Lib.hid (HL.out.below hB)
        have KS := Lib.hid (KS.out.below hB)
        have HA := Lib.hid (HA.out.below hB)
        have HC := Lib.hid (HC.out.below hB)
        obtain ⟨D, hD⟩ : ∃ z, z = applyE what width G K L A := ⟨_, rfl⟩
        have lD : D.length ≤ 1024 := by rw [hD]; exact applyE_len (by omega) (by omega) lA
        rw [← hD] at hW
        have ED := Lib.hid hD
        have HD := Lib.hid hW
        obtain ⟨pD, cD, rfl⟩ := ws_len hW
        clear hW hB hD
        clear c0 c1 c2
        go_wp2_with fail
        refine (words_same _ _ _ _ _ HC.out HD.out (by omega) (by rw [EC2.out, ED.out])).mono ?_
        rintro e w8 ⟨rfl, nq, hww⟩
        have hB := bel_of_drewN hww
        clear hww
        have BB := Lib.hid (BB.out.trans (hB.mono BB.out.size))
        have HG := Lib.hid (HG.out.below hB)
        have HK := Lib.hid (HK.out.below hB)
        have HL := Lib.hid (HL.out.below hB)
        have KS := Lib.hid (KS.out.below hB)
        have HA := Lib.hid (HA.out.below hB)
        have HC := Lib.hid (HC.out.below hB)
        have HD := Lib.hid (HD.out.below hB)
        clear hB
        go_wp2_with fail
        go_ret
        exact ⟨rfl, BB.out⟩
    · have hb : (ct != 0) = true := by simp; omega
      have e1 : ce = ct := by rw [NCE.out]; unfold applyC; rw [← NCT.out, if_neg h0]
      have e2 : C = [] := by rw [EC.out]; unfold applyR applyC; rw [← NCT.out, if_neg h0, if_neg h0]
      have ect : (ct == ct) = true := beq_self_eq_true ct
      have NT2 := Lib.hid NCT.out
      subst e1 e2
      clear h0
      have c0 := KS.out.cell 0
      have c1 := KS.out.cell 1
      have c2 := KS.out.cell 2
      simp only [List.getElem?_cons_succ, List.getElem?_cons_zero] at c0 c1 c2
      go_wp2_with fail
      refine (tcheck_any what width _ _ _ G K L _ HG.out HK.out HL.out (by omega) (by omega) (by omega)).mono ?_
      rintro e w5 ⟨rfl, hB⟩
      have BB := Lib.hid (BB.out.trans (hB.mono BB.out.size))
      have HG := Lib.hid (HG.out.below hB)
      have HK := Lib.hid (HK.out.below hB)
      have HL := Lib.hid (HL.out.below hB)
      have KS := Lib.hid (KS.out.below hB)
      have HA := Lib.hid (HA.out.below hB)
      have HC := Lib.hid (HC.out.below hB)
      clear hB c0 c1 c2
      rw [← NT2.out]
      go_wp2_with fail
      go_ret
      exact ⟨ret_bool (by first | rfl | exact ect | simp), BB.out⟩

end Go.Proofs.Ytflkelnfdoihlaa
