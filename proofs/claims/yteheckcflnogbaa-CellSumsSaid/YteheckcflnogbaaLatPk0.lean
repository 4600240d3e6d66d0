/-
  How many bits a word has: the sums in place that math/bits.OnesCount64 makes.
-/
import Derived.Test.YteheckcflnogbaaKit
import Derived.Test.YteheckcflnogbaaHas
import Derived.IntWalk
import Derived.Test.YteheckcflnogbaaSame
import Derived.Test.YteheckcflnogbaaBlk
import Derived.Deep.OwnRows
import Derived.Laws.BitsAllLaws
import Derived.Shelf.Abstract
import Derived.Lib.TrailingZeros
import Derived.Test.YteheckcflnogbaaWords
import Derived.Test.YteheckcflnogbaaTake
import Derived.BigRegion
import Derived.WalkLawsBesides
namespace Go.Proofs.Yteheckcflnogbaa

theorem and_byte (a b c e : Nat) (hb : b < 256) (he : e < 256) : (256 * a + b) &&& (256 * c + e) = 256 * (a &&& c) + (b &&& e) := by
  have h1 : b &&& e < 2 ^ 8 := Nat.and_lt_two_pow _ (by omega)
  apply Nat.eq_of_testBit_eq
  intro i
  rw [Nat.testBit_and]
  have t (x y : Nat) (hy : y < 256) : (256 * x + y).testBit i = if i < 8 then y.testBit i else x.testBit (i - 8) := by
    have := Nat.testBit_two_pow_mul_add (i := 8) x (b := y) (by omega) i
    simpa using this
  rw [t a b hb, t c e he, t (a &&& c) (b &&& e) (by omega)]
  split
  · rw [Nat.testBit_and]
  · rw [Nat.testBit_and]

/-- k bytes, each c. -/
def rep (c : Nat) : Nat → Nat
  | 0 => 0
  | k + 1 => 256 * rep c k + c
theorem rep_succ (c k : Nat) : rep c (k + 1) = 256 * rep c k + c := rfl
def pA (k x : Nat) : Nat := (x / 2 &&& rep 85 k) + (x &&& rep 85 k)
def pB (k x : Nat) : Nat := (x / 4 &&& rep 51 k) + (x &&& rep 51 k)
def pC (k x : Nat) : Nat := (x / 16 + x) &&& rep 15 k
def qA (d : Nat) : Nat := (d / 2 &&& 85) + (d &&& 85)
def qB (d : Nat) : Nat := (d / 4 &&& 51) + (d &&& 51)
def qC (d : Nat) : Nat := (d / 16 + d) &&& 15

theorem a_low : ∀ d, d < 256 → ((128 + d / 2) &&& 85) = (d / 2 &&& 85) := by decide +kernel
theorem b_low : ∀ r, r < 4 → ∀ d, d < 256 → ((64 * r + d / 4) &&& 51) = (d / 4 &&& 51) := by decide +kernel
theorem c_low : ∀ r, r < 5 → ∀ d, d < 69 → ((16 * r + d / 16 + d) &&& 15) = ((d / 16 + d) &&& 15) := by decide +kernel
theorem ab_bd : ∀ d, d < 256 → qA d < 256 ∧ qB (qA d) < 69 ∧ qB (qA d) % 16 < 5 := by decide +kernel

theorem pA_step (k q d : Nat) (hd : d < 256) : pA (k + 1) (256 * q + d) = 256 * pA k q + qA d := by
  unfold pA qA
  rw [rep_succ]
  have e : (256 * q + d) / 2 = 256 * (q / 2) + (128 * (q % 2) + d / 2) := by omega
  rw [e, and_byte _ _ _ _ (by omega) (by decide), and_byte _ _ _ _ hd (by decide)]
  have : ((128 * (q % 2) + d / 2) &&& 85) = (d / 2 &&& 85) := by
    rcases (show q % 2 = 0 ∨ q % 2 = 1 by omega) with h | h
    · rw [h]; simp
    · rw [h]; exact a_low d hd
  rw [this]; omega
theorem pB_step (k q d : Nat) (hd : d < 256) : pB (k + 1) (256 * q + d) = 256 * pB k q + qB d := by
  unfold pB qB
  rw [rep_succ]
  have e : (256 * q + d) / 4 = 256 * (q / 4) + (64 * (q % 4) + d / 4) := by omega
  rw [e, and_byte _ _ _ _ (by omega) (by decide), and_byte _ _ _ _ hd (by decide), b_low (q % 4) (by omega) d hd]
  omega
theorem pC_step (k q d : Nat) (hd : d < 69) (hq : q % 16 < 5) : pC (k + 1) (256 * q + d) = 256 * pC k q + qC d := by
  unfold pC qC
  rw [rep_succ]
  have e : (256 * q + d) / 16 + (256 * q + d) = 256 * (q / 16 + q) + (16 * (q % 16) + d / 16 + d) := by omega
  rw [e, and_byte _ _ _ _ (by omega) (by decide), c_low (q % 16) hq d hd]
theorem ab_low (k x : Nat) : pB k (pA k x) % 16 < 5 := by
  cases k with
  | zero => simp [pA, pB, rep]
  | succ k =>
    have e : x = 256 * (x / 256) + x % 256 := by omega
    have h := ab_bd (x % 256) (by omega)
    rw [e, pA_step _ _ _ (by omega), pB_step _ _ _ h.1]
    omega
def pT (k x : Nat) : Nat := pC k (pB k (pA k x))
def qT (d : Nat) : Nat := qC (qB (qA d))
theorem pT_step (k q d : Nat) (hd : d < 256) : pT (k + 1) (256 * q + d) = 256 * pT k q + qT d := by
  have h := ab_bd d hd
  unfold pT qT
  rw [pA_step _ _ _ hd, pB_step _ _ _ h.1, pC_step _ _ _ h.2.1 (ab_low k q)]
theorem qT_bd : ∀ d, d < 256 → qT d ≤ 8 := by decide +kernel

/-- How many bits. -/
def pop : Nat → Nat → Nat
  | 0, _ => 0
  | k + 1, x => x % 2 + pop k (x / 2)
theorem pop_add (j k x : Nat) : pop (j + k) x = pop j x + pop k (x / 2 ^ j) := by
  induction j generalizing x with
  | zero => simp [pop]
  | succ j ih =>
    rw [show j + 1 + k = (j + k) + 1 by omega]
    simp only [pop]
    rw [ih, Nat.div_div_eq_div_mul, Nat.pow_succ, Nat.mul_comm 2]
    omega
theorem pop_byte : ∀ d, d < 256 → qT d = pop 8 d := by decide +kernel
theorem pop_mod (j x : Nat) : pop j (x % 2 ^ j) = pop j x := by
  induction j generalizing x with
  | zero => rfl
  | succ j ih =>
    simp only [pop]
    have e1 : x % 2 ^ (j + 1) % 2 = x % 2 := Nat.mod_mod_of_dvd _ ⟨2 ^ j, by rw [Nat.pow_succ, Nat.mul_comm]⟩
    have e2 : x % 2 ^ (j + 1) / 2 = x / 2 % 2 ^ j := by rw [Nat.pow_succ, Nat.mul_comm, Nat.mod_mul_right_div_self]
    rw [e1, e2, ih]
theorem ones8 (c0 c1 c2 c3 c4 c5 c6 c7 y : Nat) (h0 : c0 ≤ 8) (h1 : c1 ≤ 8) (h2 : c2 ≤ 8) (h3 : c3 ≤ 8) (h4 : c4 ≤ 8) (h5 : c5 ≤ 8) (h6 : c6 ≤ 8) (h7 : c7 ≤ 8)
    (hy : y = c0 + 256 * c1 + 65536 * c2 + 16777216 * c3 + 4294967296 * c4 + 1099511627776 * c5 + 281474976710656 * c6 + 72057594037927936 * c7) :
    y + y / 256 < 18446744073709551616 ∧ (y + y / 256) + (y + y / 256) / 65536 < 18446744073709551616 ∧
    ((y + y / 256) + (y + y / 256) / 65536) + ((y + y / 256) + (y + y / 256) / 65536) / 4294967296 < 18446744073709551616 ∧
    (((y + y / 256) + (y + y / 256) / 65536) + ((y + y / 256) + (y + y / 256) / 65536) / 4294967296) % 128 = c0 + c1 + c2 + c3 + c4 + c5 + c6 + c7 := by
  have d1 : y / 256 = c1 + 256 * c2 + 65536 * c3 + 16777216 * c4 + 4294967296 * c5 + 1099511627776 * c6 + 281474976710656 * c7 := by omega
  have e1 : y + y / 256 = (c0 + c1) + 256 * (c1 + c2) + 65536 * (c2 + c3) + 16777216 * (c3 + c4) + 4294967296 * (c4 + c5) + 1099511627776 * (c5 + c6) + 281474976710656 * (c6 + c7) + 72057594037927936 * c7 := by omega
  generalize y + y / 256 = y1 at *
  have d2 : y1 / 65536 = (c2 + c3) + 256 * (c3 + c4) + 65536 * (c4 + c5) + 16777216 * (c5 + c6) + 4294967296 * (c6 + c7) + 1099511627776 * c7 := by clear d1 hy; omega
  have e2 : y1 + y1 / 65536 = (c0 + c1 + c2 + c3) + 256 * (c1 + c2 + c3 + c4) + 65536 * (c2 + c3 + c4 + c5) + 16777216 * (c3 + c4 + c5 + c6) + 4294967296 * (c4 + c5 + c6 + c7) + 1099511627776 * (c5 + c6 + c7) + 281474976710656 * (c6 + c7) + 72057594037927936 * c7 := by clear d1 hy; omega
  have l1 : y1 < 18446744073709551616 := by clear d1 hy d2 e2; omega
  generalize y1 + y1 / 65536 = y2 at *
  clear d1 hy e1 d2
  have d3 : y2 / 4294967296 = (c4 + c5 + c6 + c7) + 256 * (c5 + c6 + c7) + 65536 * (c6 + c7) + 16777216 * c7 := by omega
  refine ⟨l1, by omega, by omega, ?_⟩
  rw [d3, e2]
  omega
/-- The sum of a number's bytes' counts. -/
theorem pT_ones (x : Nat) :
    let y := pT 8 x
    let y1 := y + y / 256
    let y2 := y1 + y1 / 65536
    let y3 := y2 + y2 / 4294967296
    y3 < 18446744073709551616 ∧ y1 < 18446744073709551616 ∧ y2 < 18446744073709551616 ∧ y3 % 128 = pop 64 x := by
  have s (k x : Nat) : pT (k + 1) x = 256 * pT k (x / 256) + qT (x % 256) := by
    rw [← pT_step _ _ _ (by omega)]; congr 1; omega
  have p (k x : Nat) : pop (8 + k) x = qT (x % 256) + pop k (x / 256) := by
    rw [pop_add, pop_byte _ (by omega), show (256 : Nat) = 2 ^ 8 from rfl, pop_mod]
  have hp : pop 64 x = _ := (p 56 x).trans (congrArg _ ((p 48 _).trans (congrArg _ ((p 40 _).trans (congrArg _ ((p 32 _).trans (congrArg _ ((p 24 _).trans (congrArg _ ((p 16 _).trans (congrArg _ ((p 8 _).trans (congrArg _ (p 0 _))))))))))))))
  rw [hp, show pop 0 (x / 256 / 256 / 256 / 256 / 256 / 256 / 256 / 256) = 0 from rfl]
  simp only [s, show pT 0 _ = 0 from by simp [pT, pC, rep]]
  have b (d : Nat) : qT (d % 256) ≤ 8 := qT_bd _ (by omega)
  have b0 := b x
  have b1 := b (x / 256)
  have b2 := b (x / 256 / 256)
  have b3 := b (x / 256 / 256 / 256)
  have b4 := b (x / 256 / 256 / 256 / 256)
  have b5 := b (x / 256 / 256 / 256 / 256 / 256)
  have b6 := b (x / 256 / 256 / 256 / 256 / 256 / 256)
  have b7 := b (x / 256 / 256 / 256 / 256 / 256 / 256 / 256)
  generalize qT (x % 256) = c0 at *
  generalize qT (x / 256 % 256) = c1 at *
  generalize qT (x / 256 / 256 % 256) = c2 at *
  generalize qT (x / 256 / 256 / 256 % 256) = c3 at *
  generalize qT (x / 256 / 256 / 256 / 256 % 256) = c4 at *
  generalize qT (x / 256 / 256 / 256 / 256 / 256 % 256) = c5 at *
  generalize qT (x / 256 / 256 / 256 / 256 / 256 / 256 % 256) = c6 at *
  generalize qT (x / 256 / 256 / 256 / 256 / 256 / 256 / 256 % 256) = c7 at *
  clear s p b hp
  have h := ones8 c0 c1 c2 c3 c4 c5 c6 c7 (256 * (256 * (256 * (256 * (256 * (256 * (256 * (256 * 0 + c7) + c6) + c5) + c4) + c3) + c2) + c1) + c0) b0 b1 b2 b3 b4 b5 b6 b7 (by omega)
  generalize 256 * (256 * (256 * (256 * (256 * (256 * (256 * (256 * 0 + c7) + c6) + c5) + c4) + c3) + c2) + c1) + c0 = y at *
  exact ⟨h.2.2.1, h.1, h.2.1, by rw [h.2.2.2]; omega⟩

end Go.Proofs.Yteheckcflnogbaa

/-
  math/bits.OnesCount64: its contract.
-/
namespace Go.Proofs.Yteheckcflnogbaa
open Go.RowKit

theorem band (a b : Nat) (ha : a < 18446744073709551616) (hb : b < 18446744073709551616) : bits .and .u64 (a : Int) (b : Int) = ((a &&& b : Nat) : Int) :=
  (bits_nat .u64 64 (by decide) wraps_u64 a b (by omega) (by omega)).1
theorem wn (a : Nat) (h : a < 18446744073709551616) : IntKind.u64.wrap (a : Int) = (a : Int) := wraps_u64 _ (by omega) (by omega)
theorem oA (x : Nat) (hx : x < 18446744073709551616) : IntKind.u64.wrap (bits .and .u64 ((x : Int) / 2) 6148914691236517205 + bits .and .u64 (x : Int) 6148914691236517205) = ((pA 8 x : Nat) : Int) ∧ pA 8 x < 18446744073709551616 := by
  have e1 := band (x / 2) 6148914691236517205 (by omega) (by omega)
  have e2 := band x 6148914691236517205 hx (by omega)
  have l1 : x / 2 &&& 6148914691236517205 ≤ 6148914691236517205 := Nat.and_le_right
  have l2 : x &&& 6148914691236517205 ≤ 6148914691236517205 := Nat.and_le_right
  have hp : pA 8 x = (x / 2 &&& 6148914691236517205) + (x &&& 6148914691236517205) := rfl
  refine ⟨?_, by omega⟩
  rw [hp, ← wn ((x / 2 &&& 6148914691236517205) + (x &&& 6148914691236517205)) (by omega), Int.natCast_add, ← e1, ← e2, Int.natCast_ediv]
  rfl
theorem oB (x : Nat) (hx : x < 18446744073709551616) : IntKind.u64.wrap (bits .and .u64 ((x : Int) / 4) 3689348814741910323 + bits .and .u64 (x : Int) 3689348814741910323) = ((pB 8 x : Nat) : Int) ∧ pB 8 x < 8000000000000000000 := by
  have e1 := band (x / 4) 3689348814741910323 (by omega) (by omega)
  have e2 := band x 3689348814741910323 hx (by omega)
  have l1 : x / 4 &&& 3689348814741910323 ≤ 3689348814741910323 := Nat.and_le_right
  have l2 : x &&& 3689348814741910323 ≤ 3689348814741910323 := Nat.and_le_right
  have hp : pB 8 x = (x / 4 &&& 3689348814741910323) + (x &&& 3689348814741910323) := rfl
  refine ⟨?_, by omega⟩
  rw [hp, ← wn ((x / 4 &&& 3689348814741910323) + (x &&& 3689348814741910323)) (by omega), Int.natCast_add, ← e1, ← e2, Int.natCast_ediv]
  rfl
theorem oC (x : Nat) (hx : x < 8000000000000000000) : bits .and .u64 (IntKind.u64.wrap ((x : Int) / 16 + (x : Int))) 1085102592571150095 = ((pC 8 x : Nat) : Int) := by
  have e1 := band (x / 16 + x) 1085102592571150095 (by omega) (by omega)
  have hp : pC 8 x = ((x / 16 + x) &&& 1085102592571150095) := rfl
  rw [hp, ← e1, ← wn (x / 16 + x) (by omega), Int.natCast_add, Int.natCast_ediv]
  rfl
theorem oS (x s : Nat) (h : x + x / s < 18446744073709551616) : IntKind.u64.wrap ((x : Int) + (x : Int) / (s : Int)) = ((x + x / s : Nat) : Int) := by
  rw [← wn (x + x / s) h, Int.natCast_add, Int.natCast_ediv]
theorem wraps_i64 (n : Int) (h0 : 0 ≤ n) (h1 : n < 2 ^ 63) : IntKind.i64.wrap n = n := by rw [IntKind.wrap_i64]; omega
theorem oM (x : Nat) (h : x < 9223372036854775808) : bits .and .i64 (wrap64 (x : Int)) 127 = ((x % 128 : Nat) : Int) := by
  rw [IntWalk.wrap64_in _ ⟨by omega, by omega⟩]
  have e := (bits_nat .i64 63 (by decide) wraps_i64 x 127 (by omega) (by decide)).1
  rw [show (127 : Nat) = 2 ^ 7 - 1 from rfl, Nat.and_two_pow_sub_one_eq_mod] at e
  exact e

theorem ones_any (x : Nat) (w : World) (hx : x < 18446744073709551616) :
    Calls Try.prog 162 #[.int .u64 (x : Int)] w fun e w' => e = .returned (.int .i64 (pop 64 x : Nat)) ∧ w' = w := by
  go_enter Try.func162, Try.ntmps162
  go_wp2
  go_ret
  refine ⟨ret_int ?_, rfl⟩
  have hA := oA x hx
  have hB := oB (pA 8 x) hA.2
  obtain ⟨l3, l1, l2, hp⟩ := pT_ones x
  rw [hA.1, hB.1, oC _ hB.2, ← hp]
  rw [show pC 8 (pB 8 (pA 8 x)) = pT 8 x from rfl]
  have hy : pT 8 x ≤ 1085102592571150095 := Nat.and_le_right
  clear hA hB hx
  generalize pT 8 x = y at *
  have s1 : IntKind.u64.wrap ((y : Int) + (y : Int) / 256) = _ := oS y 256 l1
  have s2 : IntKind.u64.wrap (((y + y / 256 : Nat) : Int) + ((y + y / 256 : Nat) : Int) / 65536) = _ := oS _ 65536 l2
  have s3 : IntKind.u64.wrap (((y + y / 256 + (y + y / 256) / 65536 : Nat) : Int) + ((y + y / 256 + (y + y / 256) / 65536 : Nat) : Int) / 4294967296) = _ := oS _ 4294967296 l3
  rw [s1, s2, s3]
  exact oM _ (by clear s1 s2 s3 hp; omega)

end Go.Proofs.Yteheckcflnogbaa

/-
  wordset.Len: its contract.
-/
namespace Go.Proofs.Yteheckcflnogbaa
open Go.RowKit

theorem pop_le (j x : Nat) : pop j x ≤ j := by
  induction j generalizing x with
  | zero => exact Nat.le_refl _
  | succ j ih => have := ih (x / 2); simp only [pop]; omega
/-- How many numbers a set's words have. -/
def lenE (zs : List Nat) : Nat := (zs.map (pop 64)).sum
theorem lenE_le (zs : List Nat) : lenE zs ≤ 64 * zs.length := by
  induction zs with
  | nil => exact Nat.le_refl _
  | cons z zs ih => have := pop_le 64 z; simp only [lenE, List.map_cons, List.sum_cons, List.length_cons] at ih ⊢; omega
theorem lenE_take (zs : List Nat) (k : Nat) (h : k < zs.length) : lenE (zs.take (k + 1)) = lenE (zs.take k) + pop 64 (zs[k]?.getD 0) := by
  rw [List.take_add_one, List.getElem?_eq_getElem h]
  unfold lenE
  rw [List.map_append, List.sum_append]
  simp

set_option maxHeartbeats 1600000 in
set_option maxRecDepth 100000 in
theorem len_any (v : Value) (zs : List Nat) (w : World) (hw : Ws w v zs) (hx : zs.length ≤ 1000000) :
    Calls Try.prog 107 #[v] w fun e w' => e = .returned (.int .i64 (lenE zs : Nat)) ∧ w' = w := by
  have hz := hw.1
  obtain ⟨p, c, rfl, hc⟩ := ws_row hw
  have HZ := Lib.hid hz
  have H1 := Lib.hid hc
  clear hz hc hw
  go_enter Try.func107, Try.ntmps107
  go_wp2
  go_loopw [3, 8] (fun s i wr => ∃ k : Nat, k ≤ zs.length ∧ i = .int .i64 k ∧ s = .int .i64 (lenE (zs.take k) : Nat) ∧ wr = w)
    (fun _ i _ => zs.length - (intOf i).toNat)
  case atStart => exact ⟨0, Nat.zero_le _, rfl, by simp [lenE], rfl⟩
  case round =>
    obtain ⟨k, hk, rfl, rfl, rfl⟩ := hrel
    by_cases hlt : k < zs.length
    · obtain ⟨a, rfl, hc⟩ := H1.out (by omega)
      replace hc := hc k hlt
      have ht := Lib.hid (lenE_take zs k hlt)
      have hb := Lib.hid (lenE_le (zs.take k))
      have hl := Lib.hid (show (zs.take k).length = k by simp; omega)
      have hzk := Lib.hid (HZ.out (zs[k]?.getD 0) (by rw [List.getElem?_eq_getElem hlt]; exact List.getElem_mem _))
      have hp := Lib.hid (pop_le 64 (zs[k]?.getD 0))
      generalize zs[k]?.getD 0 = z at *
      generalize lenE (zs.take k) = s at *
      go_wp2_with (go_at_call 162; refine (ones_any _ _ hzk.out).mono ?_; rintro e w' ⟨rfl, rfl⟩)
      refine ⟨⟨k + 1, by omega, by go_num, ?_, trivial⟩, by simp [intOf]; omega⟩
      have h1 := hb.out
      have h2 := hp.out
      rw [hl.out] at h1
      rw [ht.out, IntWalk.wrap64_in _ ⟨by omega, by omega⟩, Int.natCast_add]
    · obtain rfl : k = zs.length := by omega
      go_wp2
      go_ret
      exact ⟨ret_int (by rw [List.take_length]), rfl⟩

end Go.Proofs.Yteheckcflnogbaa

/-
  wordset.both with its three closures: Union, Inter, Minus; Within: contracts.
-/
namespace Go.Proofs.Yteheckcflnogbaa
open Go.RowKit

def wAt (zs : List Nat) (i : Nat) : Nat := zs[i]?.getD 0
/-- Two sets word by word. -/
def bothE (f : Nat → Nat → Nat) (xs ys : List Nat) : List Nat := (List.range (max xs.length ys.length)).map fun i => f (wAt xs i) (wAt ys i)
theorem bothE_len (f : Nat → Nat → Nat) (xs ys : List Nat) : (bothE f xs ys).length = max xs.length ys.length := by simp [bothE]
/-- The first k of them, and nothing behind. -/
def bothK (f : Nat → Nat → Nat) (xs ys : List Nat) (n k : Nat) : List Value := (List.range n).map fun i => .int .u64 (if i < k then f (wAt xs i) (wAt ys i) else 0 : Nat)
theorem bothK_zero (f : Nat → Nat → Nat) (xs ys : List Nat) (n : Nat) : bothK f xs ys n 0 = List.replicate n (.int .u64 0) := by
  refine List.ext_getElem (by simp [bothK]) fun i h1 h2 => ?_
  simp [bothK]
theorem bothK_at (f : Nat → Nat → Nat) (xs ys : List Nat) (n k i : Nat) (h : i < n) : (bothK f xs ys n k)[i]? = some (.int .u64 (if i < k then f (wAt xs i) (wAt ys i) else 0 : Nat)) := by
  simp [bothK, h]
theorem bothK_step (f : Nat → Nat → Nat) (xs ys : List Nat) (n k : Nat) (_h : k < n) : (bothK f xs ys n k).set k (.int .u64 (f (wAt xs k) (wAt ys k) : Nat)) = bothK f xs ys n (k + 1) := by
  refine List.ext_getElem (by simp [bothK]) fun i h1 h2 => ?_
  have hi : i < n := by simpa [bothK] using h2
  rw [List.getElem_set]
  by_cases hk : k = i
  · subst hk
    simp [bothK]
  · rw [if_neg hk]
    simp only [bothK, List.getElem_map, List.getElem_range]
    by_cases hik : i < k
    · rw [if_pos hik, if_pos (by omega)]
    · rw [if_neg hik, if_neg (by omega)]
theorem wAt_lt {zs : List Nat} (h : ∀ z ∈ zs, z < 18446744073709551616) (i : Nat) : wAt zs i < 18446744073709551616 := by
  unfold wAt
  rcases Nat.lt_or_ge i zs.length with hi | hi
  · rw [List.getElem?_eq_getElem hi]; exact h _ (List.getElem_mem _)
  · rw [List.getElem?_eq_none hi]; decide
theorem u64_info : (Try.prog.info? 29).map (fun i => (i.zero, i.size, i.bytes)) = some (some (.int .u64 0), 1, 8) := by kernel_rfl
theorem make_u64 (n : Nat) (k : Int) (hk : (n : Int) = k) (hn : n ≤ 1048576) (w : World) :
    (Instr.makeSlice 22 (.int .i64 k) (.int .i64 k)).run Try.prog w = .ok (.slice (some ⟨w.heap.size, 0, none⟩) n n) (w.alloc (.cells (List.replicate n (Value.int .u64 0)).toArray 29)) := by
  subst hk
  have e : madeCells #[Value.int .u64 0] n = (List.replicate n (Value.int .u64 0)).toArray := by rw [← Array.toList_inj, toList_madeCells_one]
  rw [← e]
  exact run_make_row' (P := Try.prog) 22 29 (.int .u64 0) 8 Try.underlying22 u64_info rfl .i64 .i64 n (by omega) (by omega) w

set_option maxHeartbeats 3200000 in
set_option maxRecDepth 100000 in
theorem both_any (F : FuncId) (f : Nat → Nat → Nat) (v1 v2 : Value) (xs ys : List Nat) (w : World) (h1 : Ws w v1 xs) (h2 : Ws w v2 ys) (hx : xs.length ≤ 100000) (hy : ys.length ≤ 100000)
    (el : ∀ args w, (callFunc F args).run Try.prog w = .ok (.enter F args) w)
    (hf : ∀ x y w, x < 18446744073709551616 → y < 18446744073709551616 → Calls Try.prog F #[.int .u64 (x : Nat), .int .u64 (y : Nat)] w fun e w' => e = .returned (.int .u64 (f x y : Nat)) ∧ w' = w)
    (hb : ∀ x y, x < 18446744073709551616 → y < 18446744073709551616 → f x y < 18446744073709551616) :
    Calls Try.prog 186 #[v1, v2, .func (.func F) #[] #[]] w fun e w' => ∃ v, e = .returned v ∧ Ws w' v (bothE f xs ys) ∧ Below w.heap.size w w' := by
  have HF := Lib.hid hf
  have B1 := Lib.hid (wAt_lt h1.1)
  have B2 := Lib.hid (wAt_lt h2.1)
  have HBD := Lib.hid hb
  obtain ⟨p1, c1, rfl, hc1⟩ := ws_row h1
  obtain ⟨p2, c2, rfl, hc2⟩ := ws_row h2
  have H1 := Lib.hid hc1
  have H2 := Lib.hid hc2
  clear hf hb h1 h2 hc1 hc2
  have hmk1 := make_u64 xs.length xs.length rfl (by omega)
  have hmk2 := make_u64 ys.length ys.length rfl (by omega)
  go_enter Try.func186, Try.ntmps186
  rcases (show (ys.length : Int) ≤ xs.length ∨ (xs.length : Int) < ys.length by omega) with hle | hle
  · go_wp2_with fail
    have HN := Lib.hid (show xs.length = max xs.length ys.length by omega)
    clear hmk1 hmk2
    go_loopw [19] (fun i wr => ∃ k : Nat, k ≤ xs.length ∧ i = .int .i64 k ∧ Bk wr w.heap.size 29 (bothK f xs ys xs.length k) ∧ Below w.heap.size w wr)
      (fun i _ => xs.length - (intOf i).toNat)
    case atStart => exact ⟨0, Nat.zero_le _, rfl, by rw [bothK_zero]; exact Bk.new _ _ _, (Below.refl _ _).alloc (Nat.le_refl _) _⟩
    case round =>
      obtain ⟨k, hk, rfl, hb, hB⟩ := hrel
      have HK := Lib.hid hb
      have HB := Lib.hid hB
      clear hb hB
      by_cases hlt : k < xs.length
      · have hcell : wr.cell? ⟨w.heap.size, k, none⟩ = some (.int .u64 0) := by
          rw [HK.out.cell, bothK_at _ _ _ _ _ _ hlt, if_neg (Nat.lt_irrefl k)]; rfl
        have hfree := HK.out.free k
        have HS := Lib.hid (HK.out.set k (.int .u64 (f (wAt xs k) (wAt ys k) : Nat)))
        have HS := Lib.hid (show Bk (wr.setCell ⟨w.heap.size, k, none⟩ (.int .u64 (f (wAt xs k) (wAt ys k) : Nat))) w.heap.size 29 (bothK f xs ys xs.length (k + 1)) by have h7 := HS.out; rw [bothK_step _ _ _ _ _ hlt] at h7; exact h7)
        have HFK := Lib.hid (HF.out (wAt xs k) (wAt ys k) wr (B1.out k) (B2.out k))
        by_cases hkx : k < xs.length
        · have hkx2 : (k : Int) < xs.length := by omega
          obtain ⟨a1, rfl, q1⟩ := H1.out (by omega)
          replace q1 := keepc (q1 k hkx) HB.out
          have hwx : xs[k]?.getD 0 = wAt xs k := rfl
          rw [hwx] at q1
          by_cases hky : k < ys.length
          · have hky2 : (k : Int) < ys.length := by omega
            obtain ⟨a2, rfl, q2⟩ := H2.out (by omega)
            replace q2 := keepc (q2 k hky) HB.out
            have hwy : ys[k]?.getD 0 = wAt ys k := rfl
            rw [hwy] at q2
            have HX := Lib.hid (And.intro hwx hwy)
            clear hwx hwy
            go_wp2_with fail
            refine HFK.out.mono ?_
            rintro e w1 ⟨rfl, rfl⟩
            go_wp2_with fail
            go_roundw
            case rel => exact ⟨k + 1, by omega, by go_num, HS.out, HB.out.setCell (p := ⟨w.heap.size, k, none⟩) (Nat.le_refl _) _⟩
            case measure => simp [intOf]; omega
          · have hky2 : ¬ (k : Int) < ys.length := by omega
            have hwy : wAt ys k = 0 := by unfold wAt; rw [List.getElem?_eq_none (by omega)]; rfl
            rw [hwy] at HFK HS
            have HX := Lib.hid (And.intro hwx hwy)
            clear hwx hwy
            go_wp2_with fail
            refine HFK.out.mono ?_
            rintro e w1 ⟨rfl, rfl⟩
            go_wp2_with fail
            go_roundw
            case rel => exact ⟨k + 1, by omega, by go_num, HS.out, HB.out.setCell (p := ⟨w.heap.size, k, none⟩) (Nat.le_refl _) _⟩
            case measure => simp [intOf]; omega
        · have hkx2 : ¬ (k : Int) < xs.length := by omega
          have hwx : wAt xs k = 0 := by unfold wAt; rw [List.getElem?_eq_none (by omega)]; rfl
          rw [hwx] at HFK HS
          by_cases hky : k < ys.length
          · exfalso; omega
          · exfalso; omega
      · obtain rfl : k = xs.length := by omega
        go_wp2_with fail
        go_ret
        refine ⟨_, rfl, ⟨fun z hz => ?_, .inr ⟨⟨w.heap.size, 0, none⟩, _, by rw [bothE_len, ← HN.out]; rfl, fun i hi => ?_⟩⟩, HB.out⟩
        · obtain ⟨i, _, rfl⟩ := List.mem_map.1 hz
          exact HBD.out _ _ (B1.out i) (B2.out i)
        · rw [bothE_len, ← HN.out] at hi
          rw [show (⟨w.heap.size, 0, none⟩ : Addr).add i = ⟨w.heap.size, i, none⟩ from by unfold Addr.add; split <;> simp_all, HK.out.cell, bothK_at _ _ _ _ _ _ hi, if_pos hi]
          congr 3
          unfold bothE
          rw [List.getElem?_map, List.getElem?_range (by rw [← HN.out]; exact hi)]
          rfl
  · go_wp2_with fail
    have HN := Lib.hid (show ys.length = max xs.length ys.length by omega)
    clear hmk1 hmk2
    go_loopw [19] (fun i wr => ∃ k : Nat, k ≤ ys.length ∧ i = .int .i64 k ∧ Bk wr w.heap.size 29 (bothK f xs ys ys.length k) ∧ Below w.heap.size w wr)
      (fun i _ => ys.length - (intOf i).toNat)
    case atStart => exact ⟨0, Nat.zero_le _, rfl, by rw [bothK_zero]; exact Bk.new _ _ _, (Below.refl _ _).alloc (Nat.le_refl _) _⟩
    case round =>
      obtain ⟨k, hk, rfl, hb, hB⟩ := hrel
      have HK := Lib.hid hb
      have HB := Lib.hid hB
      clear hb hB
      by_cases hlt : k < ys.length
      · have hcell : wr.cell? ⟨w.heap.size, k, none⟩ = some (.int .u64 0) := by
          rw [HK.out.cell, bothK_at _ _ _ _ _ _ hlt, if_neg (Nat.lt_irrefl k)]; rfl
        have hfree := HK.out.free k
        have HS := Lib.hid (HK.out.set k (.int .u64 (f (wAt xs k) (wAt ys k) : Nat)))
        have HS := Lib.hid (show Bk (wr.setCell ⟨w.heap.size, k, none⟩ (.int .u64 (f (wAt xs k) (wAt ys k) : Nat))) w.heap.size 29 (bothK f xs ys ys.length (k + 1)) by have h7 := HS.out; rw [bothK_step _ _ _ _ _ hlt] at h7; exact h7)
        have HFK := Lib.hid (HF.out (wAt xs k) (wAt ys k) wr (B1.out k) (B2.out k))
        by_cases hkx : k < xs.length
        · have hkx2 : (k : Int) < xs.length := by omega
          obtain ⟨a1, rfl, q1⟩ := H1.out (by omega)
          replace q1 := keepc (q1 k hkx) HB.out
          have hwx : xs[k]?.getD 0 = wAt xs k := rfl
          rw [hwx] at q1
          by_cases hky : k < ys.length
          · have hky2 : (k : Int) < ys.length := by omega
            obtain ⟨a2, rfl, q2⟩ := H2.out (by omega)
            replace q2 := keepc (q2 k hky) HB.out
            have hwy : ys[k]?.getD 0 = wAt ys k := rfl
            rw [hwy] at q2
            have HX := Lib.hid (And.intro hwx hwy)
            clear hwx hwy
            go_wp2_with fail
            refine HFK.out.mono ?_
            rintro e w1 ⟨rfl, rfl⟩
            go_wp2_with fail
            go_roundw
            case rel => exact ⟨k + 1, by omega, by go_num, HS.out, HB.out.setCell (p := ⟨w.heap.size, k, none⟩) (Nat.le_refl _) _⟩
            case measure => simp [intOf]; omega
          · exfalso; omega
        · have hkx2 : ¬ (k : Int) < xs.length := by omega
          have hwx : wAt xs k = 0 := by unfold wAt; rw [List.getElem?_eq_none (by omega)]; rfl
          rw [hwx] at HFK HS
          by_cases hky : k < ys.length
          · have hky2 : (k : Int) < ys.length := by omega
            obtain ⟨a2, rfl, q2⟩ := H2.out (by omega)
            replace q2 := keepc (q2 k hky) HB.out
            have hwy : ys[k]?.getD 0 = wAt ys k := rfl
            rw [hwy] at q2
            have HX := Lib.hid (And.intro hwx hwy)
            clear hwx hwy
            go_wp2_with fail
            refine HFK.out.mono ?_
            rintro e w1 ⟨rfl, rfl⟩
            go_wp2_with fail
            go_roundw
            case rel => exact ⟨k + 1, by omega, by go_num, HS.out, HB.out.setCell (p := ⟨w.heap.size, k, none⟩) (Nat.le_refl _) _⟩
            case measure => simp [intOf]; omega
          · exfalso; omega
      · obtain rfl : k = ys.length := by omega
        go_wp2_with fail
        go_ret
        refine ⟨_, rfl, ⟨fun z hz => ?_, .inr ⟨⟨w.heap.size, 0, none⟩, _, by rw [bothE_len, ← HN.out]; rfl, fun i hi => ?_⟩⟩, HB.out⟩
        · obtain ⟨i, _, rfl⟩ := List.mem_map.1 hz
          exact HBD.out _ _ (B1.out i) (B2.out i)
        · rw [bothE_len, ← HN.out] at hi
          rw [show (⟨w.heap.size, 0, none⟩ : Addr).add i = ⟨w.heap.size, i, none⟩ from by unfold Addr.add; split <;> simp_all, HK.out.cell, bothK_at _ _ _ _ _ _ hi, if_pos hi]
          congr 3
          unfold bothE
          rw [List.getElem?_map, List.getElem?_range (by rw [← HN.out]; exact hi)]
          rfl

end Go.Proofs.Yteheckcflnogbaa

/-
  wordset.Union, Inter, Minus, Within: contracts.
-/
namespace Go.Proofs.Yteheckcflnogbaa
open Go.RowKit Go.Shelf

def orN (x y : Nat) : Nat := x ||| y
def andN (x y : Nat) : Nat := x &&& y
def minN (x y : Nat) : Nat := x &&& (18446744073709551615 - y)
theorem orN_lt (x y : Nat) (hx : x < 18446744073709551616) (hy : y < 18446744073709551616) : orN x y < 18446744073709551616 := Nat.or_lt_two_pow (n := 64) hx hy
theorem andN_lt (x y : Nat) (hx : x < 18446744073709551616) (_ : y < 18446744073709551616) : andN x y < 18446744073709551616 := Nat.lt_of_le_of_lt Nat.and_le_left hx
theorem minN_lt (x y : Nat) (hx : x < 18446744073709551616) (_ : y < 18446744073709551616) : minN x y < 18446744073709551616 := Nat.lt_of_le_of_lt Nat.and_le_left hx





set_option maxHeartbeats 1600000 in
set_option maxRecDepth 100000 in
theorem minN_any (x y : Nat) (w : World) (hx : x < 18446744073709551616) (hy : y < 18446744073709551616) :
    Calls Try.prog 187 #[.int .u64 (x : Nat), .int .u64 (y : Nat)] w fun e w' => e = .returned (.int .u64 (minN x y : Nat)) ∧ w' = w := by
  have hop : bits .andNot .u64 (x : Int) (y : Int) = ((minN x y : Nat) : Int) := u64_andNot_nat x y hx hy
  go_enter Try.func187, Try.ntmps187
  go_wp2_with fail
  go_ret
  exact ⟨rfl, rfl⟩

set_option maxHeartbeats 1600000 in
set_option maxRecDepth 100000 in
theorem minus_any (v1 v2 : Value) (xs ys : List Nat) (w : World) (h1 : Ws w v1 xs) (h2 : Ws w v2 ys) (hx : xs.length ≤ 100000) (hy : ys.length ≤ 100000) :
    Calls Try.prog 179 #[v1, v2] w fun e w' => ∃ v, e = .returned v ∧ Ws w' v (bothE minN xs ys) ∧ Below w.heap.size w w' := by
  have H1 := Lib.hid h1
  have H2 := Lib.hid h2
  obtain ⟨p1, c1, rfl⟩ := ws_len h1
  obtain ⟨p2, c2, rfl⟩ := ws_len h2
  go_enter Try.func179, Try.ntmps179
  go_wp2_with fail
  refine (both_any 187 minN _ _ xs ys _ H1.out H2.out hx hy (enters_of Try.func187 (by kernel_rfl) rfl) (fun x y w hx hy => minN_any x y w hx hy) minN_lt).mono ?_
  rintro e w1 ⟨v, rfl, hW, hB⟩
  have HW := Lib.hid hW
  have HB := Lib.hid hB
  go_wp2_with fail
  go_ret
  exact ⟨_, rfl, HW.out, HB.out⟩

set_option maxHeartbeats 1600000 in
set_option maxRecDepth 100000 in
theorem within_any (v1 v2 : Value) (xs ys : List Nat) (w : World) (h1 : Ws w v1 xs) (h2 : Ws w v2 ys) (hx : xs.length ≤ 100000) (hy : ys.length ≤ 100000) :
    Calls Try.prog 158 #[v1, v2] w fun e w' => e = .returned (.bool (lenE (bothE minN xs ys) == 0)) ∧ Below w.heap.size w w' := by
  have H1 := Lib.hid h1
  have H2 := Lib.hid h2
  obtain ⟨p1, c1, rfl⟩ := ws_len h1
  obtain ⟨p2, c2, rfl⟩ := ws_len h2
  go_enter Try.func158, Try.ntmps158
  go_wp2_with fail
  refine (minus_any _ _ xs ys _ H1.out H2.out hx hy).mono ?_
  rintro e w1 ⟨v, rfl, hW, hB⟩
  have HW := Lib.hid hW
  have HB := Lib.hid hB
  obtain ⟨p3, c3, rfl⟩ := ws_len hW
  clear hW hB
  go_wp2_with fail
  refine (len_any _ _ w1 HW.out (by rw [bothE_len]; omega)).mono ?_
  rintro e w2 ⟨rfl, rfl⟩
  obtain ⟨n, hn⟩ : ∃ n, n = lenE (bothE minN xs ys) := ⟨_, rfl⟩
  rw [← hn]
  have HN := Lib.hid hn
  clear hn
  have hq : ((n : Int) == 0) = (n == 0) := by rw [Bool.eq_iff_iff]; simp
  go_wp2_with fail
  go_ret
  exact ⟨ret_bool (by rw [← HN.out]), HB.out⟩

end Go.Proofs.Yteheckcflnogbaa

/-
  Sets as words: how many numbers there are in either and in both. No program.
-/
namespace Go.Proofs.Yteheckcflnogbaa
open Go.RowKit

theorem or_half (x y : Nat) : (x ||| y) / 2 = x / 2 ||| y / 2 := by
  have := @Nat.shiftRight_or_distrib 1 x y
  simpa [Nat.shiftRight_succ] using this
theorem and_half (x y : Nat) : (x &&& y) / 2 = x / 2 &&& y / 2 := by
  have := @Nat.shiftRight_and_distrib 1 x y
  simpa [Nat.shiftRight_succ] using this
theorem or_and_low (x y : Nat) : (x ||| y) % 2 + (x &&& y) % 2 = x % 2 + y % 2 := by
  have h1 := Nat.or_mod_two_pow (a := x) (b := y) (n := 1)
  have h2 := Nat.and_mod_two_pow (a := x) (b := y) (n := 1)
  simp only [Nat.pow_one] at h1 h2
  rw [h1, h2]
  rcases Nat.mod_two_eq_zero_or_one x with e | e <;> rcases Nat.mod_two_eq_zero_or_one y with f | f <;> rw [e, f] <;> decide
theorem pop_or_and (j : Nat) : ∀ x y, pop j (x ||| y) + pop j (x &&& y) = pop j x + pop j y := by
  induction j with
  | zero => intro x y; rfl
  | succ j ih =>
    intro x y
    have h1 := ih (x / 2) (y / 2)
    have h2 := or_and_low x y
    simp only [pop, or_half, and_half]
    omega
theorem pop_zero (j : Nat) : pop j 0 = 0 := by
  induction j with
  | zero => rfl
  | succ j ih => simp [pop, ih]
/-- A set's numbers, counted over more words than it has. -/
theorem lenE_pad (zs : List Nat) (n : Nat) (h : zs.length ≤ n) : lenE zs = ((List.range n).map fun i => pop 64 (wAt zs i)).sum := by
  induction n with
  | zero =>
    have : zs = [] := List.eq_nil_of_length_eq_zero (by omega)
    subst this
    simp [lenE]
  | succ n ih =>
    rw [List.range_succ, List.map_append, List.sum_append]
    by_cases hz : zs.length ≤ n
    · rw [← ih hz]
      have : wAt zs n = 0 := by unfold wAt; rw [List.getElem?_eq_none hz]; rfl
      simp [this, pop_zero]
    · have hl : zs.length = n + 1 := by omega
      have e := lenE_take zs n (by omega)
      rw [← hl, List.take_length] at e
      rw [e]
      have : ∀ m, m ≤ n → lenE (zs.take m) = ((List.range m).map fun i => pop 64 (wAt zs i)).sum := by
        intro m hm
        induction m with
        | zero => simp [lenE]
        | succ m ih2 =>
          rw [lenE_take zs m (by omega), ih2 (by omega), List.range_succ, List.map_append, List.sum_append]
          simp [wAt]
      rw [this n (Nat.le_refl _)]
      simp [wAt]
theorem lenE_both (f : Nat → Nat → Nat) (xs ys : List Nat) : lenE (bothE f xs ys) = ((List.range (max xs.length ys.length)).map fun i => pop 64 (f (wAt xs i) (wAt ys i))).sum := by
  unfold lenE bothE
  rw [List.map_map]
  rfl
theorem sum_add (n : Nat) (f g h k : Nat → Nat) (e : ∀ i, f i + g i = h i + k i) : ((List.range n).map f).sum + ((List.range n).map g).sum = ((List.range n).map h).sum + ((List.range n).map k).sum := by
  induction n with
  | zero => rfl
  | succ n ih =>
    simp only [List.range_succ, List.map_append, List.sum_append, List.map_cons, List.map_nil, List.sum_cons, List.sum_nil]
    have := e n
    omega
/-- In either, and in both: as many as both have. -/
theorem lenE_or_and (xs ys : List Nat) : lenE (bothE orN xs ys) + lenE (bothE andN xs ys) = lenE xs + lenE ys := by
  rw [lenE_both, lenE_both, lenE_pad xs (max xs.length ys.length) (by omega), lenE_pad ys (max xs.length ys.length) (by omega)]
  exact sum_add _ _ _ _ _ fun i => pop_or_and 64 _ _

theorem pop_eq_zero (j : Nat) : ∀ x, x < 2 ^ j → (pop j x = 0 ↔ x = 0) := by
  induction j with
  | zero =>
    intro x hx
    have : x = 0 := by simpa using hx
    simp [pop, this]
  | succ j ih =>
    intro x hx
    have h1 := ih (x / 2) (by rw [Nat.pow_succ] at hx; omega)
    simp only [pop]
    omega
theorem sum_zero (n : Nat) (f : Nat → Nat) : ((List.range n).map f).sum = 0 ↔ ∀ i, i < n → f i = 0 := by
  induction n with
  | zero => simp
  | succ n ih =>
    simp only [List.range_succ, List.map_append, List.sum_append, List.map_cons, List.map_nil, List.sum_cons, List.sum_nil]
    constructor
    · intro h i hi
      rcases (show i < n ∨ i = n by omega) with h' | rfl
      · exact ih.1 (by omega) i h'
      · omega
    · intro h
      have h1 := ih.2 fun i hi => h i (by omega)
      have h2 := h n (by omega)
      omega
/-- All that is in the first one is in the second one: word by word. -/
theorem within_iff (xs ys : List Nat) (hx : ∀ z ∈ xs, z < 18446744073709551616) (hy : ∀ z ∈ ys, z < 18446744073709551616) : lenE (bothE minN xs ys) = 0 ↔ ∀ i, minN (wAt xs i) (wAt ys i) = 0 := by
  rw [lenE_both, sum_zero]
  constructor
  · intro h i
    by_cases hi : i < max xs.length ys.length
    · exact (pop_eq_zero 64 _ (minN_lt _ _ (wAt_lt hx i) (wAt_lt hy i))).1 (h i hi)
    · have : wAt xs i = 0 := by unfold wAt; rw [List.getElem?_eq_none (by omega)]; rfl
      rw [this]
      simp [minN]
  · intro h i _
    rw [h i]
    exact pop_zero 64
theorem bothE_at (f : Nat → Nat → Nat) (h0 : f 0 0 = 0) (xs ys : List Nat) (i : Nat) : wAt (bothE f xs ys) i = f (wAt xs i) (wAt ys i) := by
  by_cases hi : i < max xs.length ys.length
  · unfold bothE
    rw [wAt, List.getElem?_map, List.getElem?_range hi]
    rfl
  · have h1 : wAt xs i = 0 := by unfold wAt; rw [List.getElem?_eq_none (by omega)]; rfl
    have h2 : wAt ys i = 0 := by unfold wAt; rw [List.getElem?_eq_none (by omega)]; rfl
    rw [h1, h2, h0, wAt, List.getElem?_eq_none (by rw [bothE_len]; omega)]
    rfl

theorem minN_bit (x y k : Nat) (hx : x < 18446744073709551616) (hy : y < 18446744073709551616) : (minN x y).testBit k = (x.testBit k && !(y.testBit k)) := by
  have e : 18446744073709551615 - y = 2 ^ 64 - (y + 1) := by omega
  unfold minN
  rw [Nat.testBit_and, e, Nat.testBit_two_pow_sub_succ hy]
  by_cases hk : k < 64
  · simp [hk]
  · have : x.testBit k = false := Nat.testBit_lt_two_pow (Nat.lt_of_lt_of_le hx (Nat.pow_le_pow_right (n := 2) (by decide) (show 64 ≤ k by omega)))
    simp [this]
/-- Bit by bit. -/
theorem sub_iff (x y : Nat) (hx : x < 18446744073709551616) (hy : y < 18446744073709551616) : minN x y = 0 ↔ ∀ k, x.testBit k = true → y.testBit k = true := by
  constructor
  · intro h k hk
    have := minN_bit x y k hx hy
    rw [h, Nat.zero_testBit, hk] at this
    simpa using this.symm
  · intro h
    refine Nat.eq_of_testBit_eq fun k => ?_
    rw [minN_bit x y k hx hy, Nat.zero_testBit]
    by_cases hk : x.testBit k = true
    · rw [hk, h k hk]; rfl
    · simp [hk]
theorem sub_trans {x y z : Nat} (hx : x < 18446744073709551616) (hy : y < 18446744073709551616) (hz : z < 18446744073709551616) (h : minN x y = 0) (k : minN y z = 0) : minN x z = 0 :=
  (sub_iff x z hx hz).2 fun i hi => (sub_iff y z hy hz).1 k i ((sub_iff x y hx hy).1 h i hi)
theorem all_word (x y : Nat) (hx : x < 18446744073709551616) (hy : y < 18446744073709551616) : orN (minN x y) (andN x y) = x := by
  refine Nat.eq_of_testBit_eq fun k => ?_
  unfold orN andN
  rw [Nat.testBit_or, minN_bit x y k hx hy, Nat.testBit_and]
  cases x.testBit k <;> cases y.testBit k <;> rfl
theorem dist_word (x y z : Nat) : andN x (orN y z) = orN (andN x y) (andN x z) := by
  refine Nat.eq_of_testBit_eq fun k => ?_
  unfold orN andN
  rw [Nat.testBit_and, Nat.testBit_or, Nat.testBit_or, Nat.testBit_and, Nat.testBit_and]
  cases x.testBit k <;> cases y.testBit k <;> cases z.testBit k <;> rfl
theorem sub_refl (x : Nat) (hx : x < 18446744073709551616) : minN x x = 0 := (sub_iff x x hx hx).2 fun _ h => h

/-- Within, as the program's count tells it. -/
def subE (xs ys : List Nat) : Bool := lenE (bothE minN xs ys) == 0
theorem subE_iff {xs ys : List Nat} (hx : ∀ z ∈ xs, z < 18446744073709551616) (hy : ∀ z ∈ ys, z < 18446744073709551616) : subE xs ys = true ↔ ∀ i, minN (wAt xs i) (wAt ys i) = 0 := by
  unfold subE
  rw [beq_iff_eq]
  exact within_iff xs ys hx hy
theorem bothE_lt {f : Nat → Nat → Nat} (hf : ∀ x y, x < 18446744073709551616 → y < 18446744073709551616 → f x y < 18446744073709551616) {xs ys : List Nat} (hx : ∀ z ∈ xs, z < 18446744073709551616) (hy : ∀ z ∈ ys, z < 18446744073709551616) :
    ∀ z ∈ bothE f xs ys, z < 18446744073709551616 := fun z hz => by
  obtain ⟨i, _, rfl⟩ := List.mem_map.1 hz
  exact hf _ _ (wAt_lt hx i) (wAt_lt hy i)
section
variable {xs ys zs : List Nat} (hx : ∀ z ∈ xs, z < 18446744073709551616) (hy : ∀ z ∈ ys, z < 18446744073709551616)
include hx hy
theorem all_in (i : Nat) : wAt (bothE orN (bothE minN xs ys) (bothE andN xs ys)) i = wAt xs i := by
  rw [bothE_at orN rfl, bothE_at minN rfl, bothE_at andN rfl, all_word _ _ (wAt_lt hx i) (wAt_lt hy i)]
theorem law_all1 : subE xs (bothE orN (bothE minN xs ys) (bothE andN xs ys)) = true :=
  (subE_iff hx (bothE_lt orN_lt (bothE_lt minN_lt hx hy) (bothE_lt andN_lt hx hy))).2 fun i => by rw [all_in hx hy i]; exact sub_refl _ (wAt_lt hx i)
theorem law_all2 : subE (bothE orN (bothE minN xs ys) (bothE andN xs ys)) xs = true :=
  (subE_iff (bothE_lt orN_lt (bothE_lt minN_lt hx hy) (bothE_lt andN_lt hx hy)) hx).2 fun i => by rw [all_in hx hy i]; exact sub_refl _ (wAt_lt hx i)
theorem law_dist (hz : ∀ z ∈ zs, z < 18446744073709551616) : subE (bothE andN xs (bothE orN ys zs)) (bothE orN (bothE andN xs ys) (bothE andN xs zs)) = true := by
  refine (subE_iff (bothE_lt andN_lt hx (bothE_lt orN_lt hy hz)) (bothE_lt orN_lt (bothE_lt andN_lt hx hy) (bothE_lt andN_lt hx hz))).2 fun i => ?_
  rw [bothE_at andN rfl, bothE_at orN rfl, bothE_at orN rfl, bothE_at andN rfl, bothE_at andN rfl, dist_word]
  exact sub_refl _ (orN_lt _ _ (andN_lt _ _ (wAt_lt hx i) (wAt_lt hy i)) (andN_lt _ _ (wAt_lt hx i) (wAt_lt hz i)))
theorem law_trans (hz : ∀ z ∈ zs, z < 18446744073709551616) (h : subE xs ys = true) (k : subE ys zs = true) : subE xs zs = true :=
  (subE_iff hx hz).2 fun i => sub_trans (wAt_lt hx i) (wAt_lt hy i) (wAt_lt hz i) ((subE_iff hx hy).1 h i) ((subE_iff hy hz).1 k i)
end

end Go.Proofs.Yteheckcflnogbaa

/-
  A set's numbers, in their order: mathematics. No program.
-/
namespace Go.Proofs.Yteheckcflnogbaa
open Go.RowKit

/-- The numbers of a word's first j bits, counted from i on. -/
def bl : Nat → Nat → Nat → List Nat
  | 0, _, _ => []
  | j + 1, i, x => if x % 2 = 1 then i :: bl j (i + 1) (x / 2) else bl j (i + 1) (x / 2)
theorem bl_zero (j : Nat) : ∀ i, bl j i 0 = [] := by
  induction j with
  | zero => intro i; rfl
  | succ j ih => intro i; simp [bl, ih]
theorem bl_len (j : Nat) : ∀ i x, (bl j i x).length = pop j x := by
  induction j with
  | zero => intro i x; rfl
  | succ j ih =>
    intro i x
    simp only [bl, pop]
    split
    · rw [List.length_cons, ih]; omega
    · rw [ih]; omega
theorem low_half (x : Nat) (h : x % 2 = 1) : (x &&& (x - 1)) / 2 = x / 2 ∧ (x &&& (x - 1)) % 2 = 0 := by
  have e : (x - 1) / 2 = x / 2 := by omega
  refine ⟨by rw [and_half, e, Nat.and_self], ?_⟩
  have h2 := Nat.and_mod_two_pow (a := x) (b := x - 1) (n := 1)
  simp only [Nat.pow_one] at h2
  rw [h2, h, show (x - 1) % 2 = 0 by omega]; rfl
theorem high_half (x : Nat) (h : x % 2 = 0) (_h0 : x ≠ 0) : (x &&& (x - 1)) / 2 = x / 2 &&& (x / 2 - 1) ∧ (x &&& (x - 1)) % 2 = 0 := by
  have e : (x - 1) / 2 = x / 2 - 1 := by omega
  refine ⟨by rw [and_half, e], ?_⟩
  have h2 := Nat.and_mod_two_pow (a := x) (b := x - 1) (n := 1)
  simp only [Nat.pow_one] at h2
  rw [h2, h, show (x - 1) % 2 = 1 by omega]; rfl
/-- The lowest one first; then those of the word without it. -/
theorem bl_step (j : Nat) : ∀ i x, x ≠ 0 → x < 2 ^ j → bl j i x = (i + Lib.ctzFrom j x) :: bl j i (x &&& (x - 1)) := by
  induction j with
  | zero => intro i x h0 h; simp at h; omega
  | succ j ih =>
    intro i x h0 h
    rw [bl, Lib.ctzFrom]
    by_cases hx : x % 2 = 1
    · obtain ⟨e1, e2⟩ := low_half x hx
      rw [if_pos hx, if_pos hx, bl, if_neg (by omega), e1]; rfl
    · obtain ⟨e1, e2⟩ := high_half x (by omega) h0
      rw [if_neg hx, if_neg hx, bl, if_neg (by omega), e1, ih (i + 1) (x / 2) (by omega) (by rw [Nat.pow_succ] at h; omega)]
      congr 1
      omega
theorem bl_lt (j : Nat) : ∀ i x, ∀ n ∈ bl j i x, n < i + j := by
  induction j with
  | zero => intro i x n h; cases h
  | succ j ih =>
    intro i x n h
    simp only [bl] at h
    split at h
    · rcases List.mem_cons.1 h with rfl | h
      · omega
      · have := ih _ _ n h; omega
    · have := ih _ _ n h; omega
/-- The numbers of the first k words. -/
def setK (zs : List Nat) (k : Nat) : List Nat := (List.range k).flatMap fun i => bl 64 (64 * i) (wAt zs i)
def setE (zs : List Nat) : List Nat := setK zs zs.length
theorem setK_succ (zs : List Nat) (k : Nat) : setK zs (k + 1) = setK zs k ++ bl 64 (64 * k) (wAt zs k) := by
  simp [setK, List.range_succ]
theorem setK_lt (zs : List Nat) (k : Nat) : ∀ n ∈ setK zs k, n < 64 * k := fun n h => by
  obtain ⟨i, hi, h⟩ := List.mem_flatMap.1 h
  have := bl_lt _ _ _ n h
  have := List.mem_range.1 hi
  omega
theorem setK_len (zs : List Nat) (k : Nat) (h : k ≤ zs.length) : (setK zs k).length = lenE (zs.take k) := by
  induction k with
  | zero => simp [setK, lenE]
  | succ k ih =>
    rw [setK_succ, List.length_append, ih (by omega), bl_len, lenE_take zs k (by omega)]
    rfl
theorem setE_len (zs : List Nat) : (setE zs).length = lenE zs := by
  unfold setE
  rw [setK_len zs _ (Nat.le_refl _), List.take_length]
theorem setK_prefix (zs : List Nat) (k n : Nat) (h : k ≤ n) : setK zs k <+: setK zs n := by
  induction n with
  | zero => obtain rfl : k = 0 := by omega
            exact List.prefix_refl _
  | succ n ih =>
    rcases (show k ≤ n ∨ k = n + 1 by omega) with h' | rfl
    · exact (ih h').trans (by rw [setK_succ]; exact List.prefix_append _ _)
    · exact List.prefix_refl _

end Go.Proofs.Yteheckcflnogbaa

/-
  wordset.Of, Full: contracts.
-/
namespace Go.Proofs.Yteheckcflnogbaa
open Go.RowKit

/-- How many words a width needs. -/
def sizeE (width : Int) : Nat := ((near width + 63) / 64).toNat
theorem sizeE_le (width : Int) : sizeE width ≤ 16 := by have := near_bd width; unfold sizeE; omega
theorem sizeE_int (width : Int) : (near width + 63) / 64 = (sizeE width : Int) := by have := near_bd width; unfold sizeE; omega
theorem near_near (n : Int) : near (near n) = near n := by unfold near; omega
/-- A set with a number more. -/
def withE (a : List Nat) (m : Nat) : List Nat := a.set (m / 64) (wAt a (m / 64) ||| 2 ^ (m % 64))
def ofStep (width : Int) (a : List Nat) (n : Int) : List Nat := if 0 ≤ n ∧ n < near width then withE a n.toNat else a
def ofE (width : Int) (l : List Int) : List Nat := l.foldl (ofStep width) (List.replicate (sizeE width) 0)
theorem withE_len (a : List Nat) (m : Nat) : (withE a m).length = a.length := by simp [withE]
theorem ofStep_len (width : Int) (a : List Nat) (n : Int) : (ofStep width a n).length = a.length := by
  unfold ofStep; split
  · exact withE_len _ _
  · rfl
theorem withE_lt {a : List Nat} (h : ∀ z ∈ a, z < 18446744073709551616) (m : Nat) : ∀ z ∈ withE a m, z < 18446744073709551616 := fun z hz => by
  rcases List.mem_or_eq_of_mem_set hz with hz | rfl
  · exact h z hz
  · exact orN_lt _ _ (wAt_lt h _) (Nat.lt_of_le_of_lt (Nat.pow_le_pow_right (by decide) (show m % 64 ≤ 63 by omega)) (by decide))
theorem ofStep_lt {a : List Nat} (h : ∀ z ∈ a, z < 18446744073709551616) (width n : Int) : ∀ z ∈ ofStep width a n, z < 18446744073709551616 := by
  unfold ofStep; split
  · exact withE_lt h _
  · exact h
/-- The first k of the list's numbers. -/
def ofK (width : Int) (l : List Int) (k : Nat) : List Nat := (l.take k).foldl (ofStep width) (List.replicate (sizeE width) 0)
theorem ofK_succ (width : Int) (l : List Int) (k : Nat) (h : k < l.length) : ofK width l (k + 1) = ofStep width (ofK width l k) (l[k]?.getD 0) := by
  unfold ofK
  rw [List.take_add_one, List.foldl_append, List.getElem?_eq_getElem h]
  rfl
theorem ofK_len (width : Int) (l : List Int) (k : Nat) : (ofK width l k).length = sizeE width := by
  unfold ofK
  generalize l.take k = m
  have : ∀ a : List Nat, (m.foldl (ofStep width) a).length = a.length := by
    induction m with
    | nil => intro a; rfl
    | cons x m ih => intro a; rw [List.foldl_cons, ih, ofStep_len]
  rw [this, List.length_replicate]
theorem ofK_lt (width : Int) (l : List Int) (k : Nat) : ∀ z ∈ ofK width l k, z < 18446744073709551616 := by
  unfold ofK
  generalize l.take k = m
  have : ∀ a : List Nat, (∀ z ∈ a, z < 18446744073709551616) → ∀ z ∈ m.foldl (ofStep width) a, z < 18446744073709551616 := by
    induction m with
    | nil => intro a h; exact h
    | cons x m ih => intro a h; exact ih _ (ofStep_lt h _ _)
  exact this _ fun z hz => by rw [List.eq_of_mem_replicate hz]; decide
/-- A set's words as cells. -/
def u64s (a : List Nat) : List Value := a.map fun z => .int .u64 (z : Nat)
theorem u64s_at (a : List Nat) (i : Nat) (h : i < a.length) : (u64s a)[i]? = some (.int .u64 (wAt a i : Nat)) := by
  unfold u64s wAt
  rw [List.getElem?_map, List.getElem?_eq_getElem h]
  rfl
theorem u64s_zero (n : Nat) : u64s (List.replicate n 0) = List.replicate n (.int .u64 0) := by simp [u64s]
theorem u64s_set (a : List Nat) (i z : Nat) : u64s (a.set i z) = (u64s a).set i (.int .u64 (z : Nat)) := by simp [u64s, List.map_set]
theorem Bk.ws {w : World} {g : Nat} {a : List Nat} {n : Nat} (h : Bk w g 29 (u64s a)) (hl : a.length = n) (hz : ∀ z ∈ a, z < 18446744073709551616) : Ws w (.slice (some ⟨g, 0, none⟩) n n) a := by
  subst hl
  refine ⟨hz, .inr ⟨⟨g, 0, none⟩, _, rfl, fun i hi => ?_⟩⟩
  rw [show (⟨g, 0, none⟩ : Addr).add i = ⟨g, i, none⟩ from by unfold Addr.add; split <;> simp_all, h.cell, u64s_at _ _ hi]
  rfl
theorem bit_word (m : Nat) (h : m < 64) : ((2 ^ m : Nat) : Int) < 18446744073709551616 := by
  have h1 : 2 ^ m ≤ 2 ^ 63 := Nat.pow_le_pow_right (by decide) (by omega)
  omega

theorem bor (a b : Nat) (ha : a < 18446744073709551616) (hb : b < 18446744073709551616) : bits .or .u64 (a : Int) (b : Int) = ((a ||| b : Nat) : Int) :=
  (bits_nat .u64 64 (by decide) wraps_u64 a b (by omega) (by omega)).2
theorem or_bit (z m : Nat) (hz : z < 18446744073709551616) (hm : m < 64) : bits BinOp.or IntKind.u64 (z : Int) (IntKind.u64.wrap (2 ^ m)) = ((z ||| 2 ^ m : Nat) : Int) := by
  have h := bit_word m hm
  have e : (2 : Int) ^ m = ((2 ^ m : Nat) : Int) := by rw [Int.natCast_pow]; rfl
  rw [e, wn _ (by omega)]
  exact bor _ _ hz (by omega)
theorem Bk.withE {w : World} {g : Nat} {a : List Nat} (h : Bk w g 29 (u64s a)) (m : Nat) : Bk (w.setCell ⟨g, m / 64, none⟩ (.int .u64 ((wAt a (m / 64) ||| 2 ^ (m % 64) : Nat) : Int))).drew g 29 (u64s (withE a m)) := by
  have := h.set (m / 64) (.int .u64 ((wAt a (m / 64) ||| 2 ^ (m % 64) : Nat) : Int))
  rw [← u64s_set] at this
  exact this.drew


/-! ### Full -/
def fullK (n k : Nat) : List Nat := (List.range n).map fun i => if i < k then 18446744073709551615 else 0
theorem fullK_zero (n : Nat) : fullK n 0 = List.replicate n 0 := by
  refine List.ext_getElem (by simp [fullK]) fun i h1 h2 => ?_
  simp [fullK]
theorem fullK_len (n k : Nat) : (fullK n k).length = n := by simp [fullK]
theorem fullK_step (n k : Nat) : (fullK n k).set k 18446744073709551615 = fullK n (k + 1) := by
  refine List.ext_getElem (by simp [fullK]) fun i h1 h2 => ?_
  rw [List.getElem_set]
  by_cases hk : k = i
  · subst hk; simp [fullK]
  · rw [if_neg hk]
    simp only [fullK, List.getElem_map, List.getElem_range]
    by_cases hik : i < k
    · rw [if_pos hik, if_pos (by omega)]
    · rw [if_neg hik, if_neg (by omega)]
theorem fullK_lt (n k : Nat) : ∀ z ∈ fullK n k, z < 18446744073709551616 := fun z hz => by
  obtain ⟨i, _, rfl⟩ := List.mem_map.1 hz
  split <;> decide
/-- All numbers below a width. -/
def fullE (width : Int) : List Nat :=
  if 0 < near width % 64 then (fullK (sizeE width) (sizeE width)).set (sizeE width - 1) (2 ^ (near width % 64).toNat - 1) else fullK (sizeE width) (sizeE width)
theorem fullE_len (width : Int) : (fullE width).length = sizeE width := by
  unfold fullE; split
  · rw [List.length_set, fullK_len]
  · exact fullK_len _ _
theorem fullE_lt (width : Int) : ∀ z ∈ fullE width, z < 18446744073709551616 := by
  unfold fullE; split
  · intro z hz
    rcases List.mem_or_eq_of_mem_set hz with hz | rfl
    · exact fullK_lt _ _ z hz
    · have := bit_word (near width % 64).toNat (by omega)
      omega
  · exact fullK_lt _ _

set_option maxHeartbeats 3200000 in
set_option maxRecDepth 100000 in
theorem full_any (width : Int) (w : World) :
    Calls Try.prog 97 #[.int .i64 width] w fun e w' => ∃ u, e = .returned u ∧ Ws w' u (fullE width) ∧ Below w.heap.size w w' := by
  have hs := sizeE_le width
  have hmk := make_u64 (sizeE width) ((near (near width) + 63) / 64) (by rw [near_near, sizeE_int]) (by omega)
  go_enter Try.func97, Try.ntmps97
  go_wp2_with (first | (go_at_call 155; refine (nearest_any _ _).mono ?_; rintro e w1 ⟨rfl, hw1⟩; subst w1) | (go_at_call 95; refine (size_any _ _).mono ?_; rintro e w1 ⟨rfl, hw1⟩; subst w1))
  clear hmk
  go_loopw [13] (fun i wr => ∃ k : Nat, k ≤ sizeE width ∧ i = .int .i64 k ∧ Bk wr w.heap.size 29 (u64s (fullK (sizeE width) k)) ∧ Below w.heap.size w wr)
    (fun i _ => sizeE width - (intOf i).toNat)
  case atStart => exact ⟨0, Nat.zero_le _, rfl, by rw [fullK_zero, u64s_zero]; exact Bk.new _ _ _, (Below.refl _ _).alloc (Nat.le_refl _) _⟩
  case round =>
    obtain ⟨k, hk, rfl, hb, hB⟩ := hrel
    have HK := Lib.hid hb
    have HB := Lib.hid hB
    clear hb hB
    by_cases hlt : k < sizeE width
    · have hcell : wr.cell? ⟨w.heap.size, k, none⟩ = some (.int .u64 (wAt (fullK (sizeE width) k) k : Nat)) := by
        rw [HK.out.cell, u64s_at _ _ (by rw [fullK_len]; exact hlt)]
      have hfree := HK.out.free k
      have HBk := Lib.hid (HK.out.set k (.int .u64 18446744073709551615))
      have e1 := u64s_set (fullK (sizeE width) k) k 18446744073709551615
      rw [fullK_step] at e1
      rw [show (Value.int .u64 18446744073709551615) = Value.int .u64 ((18446744073709551615 : Nat) : Int) from rfl, ← e1] at HBk
      clear e1
      generalize wAt (fullK (sizeE width) k) k = z at *
      go_wp2_with fail
      go_roundw
      case rel => exact ⟨k + 1, by omega, by go_num, HBk.out, HB.out.setCell (p := ⟨w.heap.size, k, none⟩) (Nat.le_refl _) _⟩
      case measure => simp [intOf]; omega
    · obtain rfl : k = sizeE width := by omega
      have HN := Lib.hid (near_bd width)
      have HSZ := Lib.hid (sizeE_int width)
      obtain ⟨W, hW⟩ : ∃ W : Nat, near width = W := ⟨(near width).toNat, by have := near_bd width; omega⟩
      have HF0 := Lib.hid (show ¬ 0 < W % 64 → fullE width = fullK (sizeE width) (sizeE width) from fun h => by unfold fullE; rw [if_neg (by omega)])
      have HF1 := Lib.hid (show 0 < W % 64 → fullE width = (fullK (sizeE width) (sizeE width)).set (sizeE width - 1) (2 ^ (W % 64) - 1) from fun h => by
        unfold fullE; rw [if_pos (by omega)]; rw [show (near width % 64).toNat = W % 64 by omega])
      have HL := Lib.hid (fullE_len width)
      have HLt := Lib.hid (fullE_lt width)
      rw [hW] at HN HSZ ⊢
      obtain ⟨fw, hfw⟩ : ∃ fw, fw = fullE width := ⟨_, rfl⟩
      rw [← hfw] at HF0 HF1 HL HLt
      have HFW := Lib.hid hfw
      clear hfw
      generalize sizeE width = S at *
      have hmod : ((W : Int)).tmod 64 = ((W % 64 : Nat) : Int) := by rw [Int.tmod_eq_emod_of_nonneg (by omega)]; omega
      by_cases hr : 0 < W % 64
      · obtain ⟨S, rfl⟩ : ∃ s, S = s + 1 := ⟨S - 1, by have := HSZ.out; omega⟩
        have hr2 : (0 : Int) < ((W % 64 : Nat) : Int) := by omega
        have hr3 : W % 64 < 64 := by omega
        have hcell : wr.cell? ⟨w.heap.size, S, none⟩ = some (.int .u64 (wAt (fullK (S + 1) (S + 1)) S : Nat)) := by
          rw [HK.out.cell, u64s_at _ _ (by rw [fullK_len]; omega)]
        have hfree := HK.out.free S
        have HBk := Lib.hid (HK.out.set S (.int .u64 ((2 ^ (W % 64) - 1 : Nat) : Int)))
        rw [← u64s_set, show (fullK (S + 1) (S + 1)).set S (2 ^ (W % 64) - 1) = fw from (HF1.out hr).symm] at HBk
        generalize wAt (fullK (S + 1) (S + 1)) S = z at *
        have hb2 := bit_word (W % 64) hr3
        have hp1 : 1 ≤ 2 ^ (W % 64) := Nat.one_le_two_pow
        have e1 : IntKind.u64.wrap (2 ^ (W % 64)) = ((2 ^ (W % 64) : Nat) : Int) := by
          rw [show (2 : Int) ^ (W % 64) = ((2 ^ (W % 64) : Nat) : Int) by rw [Int.natCast_pow]; rfl]
          exact wn _ (by omega)
        have e2 : IntKind.u64.wrap (IntKind.u64.wrap (2 ^ (W % 64)) - 1) = ((2 ^ (W % 64) - 1 : Nat) : Int) := by
          rw [e1, show ((2 ^ (W % 64) : Nat) : Int) - 1 = ((2 ^ (W % 64) - 1 : Nat) : Int) by omega]
          exact wn _ (by omega)
        have HE2 := Lib.hid e2
        clear e1 e2 hb2 hp1
        go_wp2_with fail
        go_ret
        refine ⟨_, rfl, ?_, HB.out.setCell (p := ⟨w.heap.size, S, none⟩) (Nat.le_refl _) _⟩
        rw [HE2.out, ← HFW.out]
        exact HBk.out.ws HL.out HLt.out
      · have hr2 : ((W % 64 : Nat) : Int) = 0 := by omega
        have hF := HF0.out hr
        rw [← hF] at HK
        clear hF
        go_wp2_with fail
        go_ret
        refine ⟨_, rfl, ?_, HB.out⟩
        rw [← HFW.out]
        exact HK.out.ws HL.out HLt.out

end Go.Proofs.Yteheckcflnogbaa

/-
  Sets number by number and word by word: mathematics. No program.
-/
namespace Go.Proofs.Yteheckcflnogbaa
open Go.RowKit

theorem hasE_at (zs : List Nat) (i j : Nat) (hj : j < 64) : hasE zs ((64 * i + j : Nat) : Int) = (wAt zs i).testBit j := by
  have e1 : ((64 * i + j : Nat) : Int) / 64 = (i : Int) := by omega
  have e2 : ((64 * i + j : Nat) : Int) % 64 = (j : Int) := by omega
  unfold hasE
  rw [e1, e2, Int.toNat_natCast, Int.toNat_natCast]
  have h0 : decide (0 ≤ ((64 * i + j : Nat) : Int)) = true := by simp; omega
  rw [h0, Bool.true_and]
  by_cases hi : i < zs.length
  · have : decide ((i : Int) < zs.length) = true := by simpa using hi
    rw [this, Bool.true_and]; rfl
  · have : decide ((i : Int) < zs.length) = false := by simpa using hi
    rw [this, Bool.false_and]
    unfold wAt
    rw [List.getElem?_eq_none (by omega)]
    simp
theorem wAt_set_self (a : List Nat) (k z : Nat) (h : k < a.length) : wAt (a.set k z) k = z := by
  unfold wAt; rw [List.getElem?_set_self h]; rfl
theorem wAt_set_ne (a : List Nat) (k i z : Nat) (h : ¬ i = k) : wAt (a.set k z) i = wAt a i := by
  unfold wAt; rw [List.getElem?_set_ne (fun e => h e.symm)]
theorem withE_at (a : List Nat) (m i : Nat) (hm : m / 64 < a.length) : wAt (withE a m) i = if i = m / 64 then wAt a i ||| 2 ^ (m % 64) else wAt a i := by
  unfold withE
  by_cases h : i = m / 64
  · subst h
    rw [if_pos rfl, wAt_set_self _ _ _ hm]
  · rw [if_neg h, wAt_set_ne _ _ _ _ h]
theorem ext_words {a b : List Nat} (hl : a.length = b.length) (ha : ∀ z ∈ a, z < 18446744073709551616) (hb : ∀ z ∈ b, z < 18446744073709551616)
    (h : ∀ i, i < a.length → ∀ j, j < 64 → (wAt a i).testBit j = (wAt b i).testBit j) : a = b := by
  refine List.ext_getElem hl fun i h1 h2 => ?_
  have e : wAt a i = wAt b i := by
    refine Nat.eq_of_testBit_eq fun j => ?_
    by_cases hj : j < 64
    · exact h i h1 j hj
    · have big : ∀ z : Nat, z < 18446744073709551616 → z.testBit j = false := fun z hz => Nat.testBit_lt_two_pow (Nat.lt_of_lt_of_le hz (Nat.pow_le_pow_right (n := 2) (by decide) (show 64 ≤ j by omega)))
      rw [big _ (wAt_lt ha i), big _ (wAt_lt hb i)]
  unfold wAt at e
  rw [List.getElem?_eq_getElem h1, List.getElem?_eq_getElem h2] at e
  exact e

/-- Two sets number by number: the first k numbers. -/
def bothF (c : Bool → Bool → Bool) (xs ys : List Nat) : Nat → List Nat
  | 0 => List.replicate (max xs.length ys.length) 0
  | k + 1 => if c (hasE xs (k : Nat)) (hasE ys (k : Nat)) = true then withE (bothF c xs ys k) k else bothF c xs ys k
theorem bothF_len (c : Bool → Bool → Bool) (xs ys : List Nat) (k : Nat) : (bothF c xs ys k).length = max xs.length ys.length := by
  induction k with
  | zero => simp [bothF]
  | succ k ih =>
    simp only [bothF]
    split
    · rw [withE_len, ih]
    · exact ih
theorem bothF_lt (c : Bool → Bool → Bool) (xs ys : List Nat) (k : Nat) : ∀ z ∈ bothF c xs ys k, z < 18446744073709551616 := by
  induction k with
  | zero => intro z hz; rw [List.eq_of_mem_replicate hz]; decide
  | succ k ih =>
    simp only [bothF]
    split
    · exact withE_lt ih k
    · exact ih
theorem bothF_bit (c : Bool → Bool → Bool) (xs ys : List Nat) (k : Nat) (hk : k ≤ 64 * max xs.length ys.length) : ∀ i j, i < max xs.length ys.length → j < 64 →
    (wAt (bothF c xs ys k) i).testBit j = (decide (64 * i + j < k) && c (hasE xs ((64 * i + j : Nat) : Int)) (hasE ys ((64 * i + j : Nat) : Int))) := by
  induction k with
  | zero =>
    intro i j hi hj
    have : wAt (bothF c xs ys 0) i = 0 := by
      unfold wAt bothF
      rw [List.getElem?_replicate]
      split <;> rfl
    rw [this]
    simp
  | succ k ih =>
    intro i j hi hj
    have h := ih (by omega) i j hi hj
    simp only [bothF]
    by_cases e : k = 64 * i + j
    · subst e
      have hd : decide (64 * i + j < 64 * i + j + 1) = true := by simp
      have hd0 : decide (64 * i + j < 64 * i + j) = false := by simp
      rw [hd0, Bool.false_and] at h
      rw [hd, Bool.true_and]
      split
      · next hc =>
        rw [withE_at _ _ _ (by rw [bothF_len]; omega), if_pos (by omega), Nat.testBit_or, h, hc, Bool.false_or, show (64 * i + j) % 64 = j by omega, Nat.testBit_two_pow_self]
      · next hc =>
        rw [h]
        simpa using hc
    · have hd : decide (64 * i + j < k + 1) = decide (64 * i + j < k) := by
        rw [decide_eq_decide]; omega
      rw [hd]
      split
      · rw [withE_at _ _ _ (by rw [bothF_len]; omega)]
        by_cases hi2 : i = k / 64
        · rw [if_pos hi2, Nat.testBit_or, h, Nat.testBit_two_pow_of_ne (by omega), Bool.or_false]
        · rw [if_neg hi2, h]
      · exact h
theorem bothF_all (c : Bool → Bool → Bool) (f : Nat → Nat → Nat) (hf : ∀ x y, x < 18446744073709551616 → y < 18446744073709551616 → f x y < 18446744073709551616)
    (hc : ∀ x y j, x < 18446744073709551616 → y < 18446744073709551616 → (f x y).testBit j = c (x.testBit j) (y.testBit j)) (xs ys : List Nat) (hx : ∀ z ∈ xs, z < 18446744073709551616) (hy : ∀ z ∈ ys, z < 18446744073709551616) :
    bothF c xs ys (64 * max xs.length ys.length) = bothE f xs ys := by
  refine ext_words (by rw [bothF_len, bothE_len]) (bothF_lt _ _ _ _) (bothE_lt hf hx hy) fun i hi j hj => ?_
  rw [bothF_len] at hi
  rw [bothF_bit c xs ys _ (Nat.le_refl _) i j hi hj, hasE_at _ _ _ hj, hasE_at _ _ _ hj]
  have hd : decide (64 * i + j < 64 * max xs.length ys.length) = true := by simp only [decide_eq_true_eq]; omega
  have e : wAt (bothE f xs ys) i = f (wAt xs i) (wAt ys i) := by
    unfold bothE
    rw [wAt, List.getElem?_map, List.getElem?_range hi]
    rfl
  rw [hd, Bool.true_and, e, hc _ _ _ (wAt_lt hx i) (wAt_lt hy i)]
theorem or_bits (x y j : Nat) : (orN x y).testBit j = (x.testBit j || y.testBit j) := Nat.testBit_or _ _ _
theorem and_bits (x y j : Nat) : (andN x y).testBit j = (x.testBit j && y.testBit j) := Nat.testBit_and _ _ _

/-- A set's numbers, looked for one by one below n. -/
def refK (zs : List Nat) (n : Nat) : List Nat := (List.range n).filter fun m => hasE zs (m : Nat)
theorem refK_succ (zs : List Nat) (n : Nat) : refK zs (n + 1) = if hasE zs (n : Nat) = true then refK zs n ++ [n] else refK zs n := by
  unfold refK
  rw [List.range_succ, List.filter_append]
  split
  · next h => simp [h]
  · next h => simp [h]
theorem refK_len (zs : List Nat) (n : Nat) : (refK zs n).length ≤ n := by
  have := List.length_filter_le (fun m : Nat => hasE zs (m : Nat)) (List.range n)
  simpa [refK] using this
theorem bl_filter (j : Nat) : ∀ i x, bl j i x = (List.range' i j).filter fun n => x.testBit (n - i) := by
  induction j with
  | zero => intro i x; rfl
  | succ j ih =>
    intro i x
    rw [List.range'_succ, List.filter_cons, bl, ih (i + 1) (x / 2)]
    have e : (List.range' (i + 1) j).filter (fun n => (x / 2).testBit (n - (i + 1))) = (List.range' (i + 1) j).filter (fun n => x.testBit (n - i)) := by
      refine List.filter_congr fun n hn => ?_
      have h1 := (List.mem_range'_1.1 hn).1
      rw [show n - i = (n - (i + 1)) + 1 by omega, Nat.testBit_succ]
    rw [e, Nat.sub_self, Nat.testBit_zero]
    by_cases h : x % 2 = 1
    · simp [h]
    · simp [h]
theorem refK_word (zs : List Nat) (k : Nat) : refK zs (64 * k) = setK zs k := by
  induction k with
  | zero => simp [refK, setK]
  | succ k ih =>
    rw [setK_succ, ← ih, bl_filter]
    unfold refK
    rw [show 64 * (k + 1) = 64 * k + 64 by omega, List.range_add, List.filter_append, List.range'_eq_map_range]
    congr 1
    refine (List.filter_congr fun n hn => ?_)
    obtain ⟨m, hm, rfl⟩ := List.mem_map.1 hn
    have hm := List.mem_range.1 hm
    rw [hasE_at zs k m hm, show 64 * k + m - 64 * k = m by omega]

/-! ### Full, Fits -/
theorem fullE_near (width : Int) : fullE (near width) = fullE width := by unfold fullE sizeE; rw [near_near]
theorem fullE_bit (width : Int) (i j : Nat) (hi : i < sizeE width) (hj : j < 64) : (wAt (fullE width) i).testBit j = decide (((64 * i + j : Nat) : Int) < near width) := by
  have hn := near_bd width
  have hs := sizeE_int width
  have hone : (18446744073709551615 : Nat).testBit j = true := by
    rw [show (18446744073709551615 : Nat) = 2 ^ 64 - 1 by decide, Nat.testBit_two_pow_sub_one]
    simpa using hj
  have hfk : wAt (fullK (sizeE width) (sizeE width)) i = 18446744073709551615 := by
    unfold wAt fullK
    rw [List.getElem?_map, List.getElem?_range hi]
    simp [hi]
  unfold fullE
  split
  · by_cases h : i = sizeE width - 1
    · have e : wAt ((fullK (sizeE width) (sizeE width)).set (sizeE width - 1) (2 ^ (near width % 64).toNat - 1)) i = 2 ^ (near width % 64).toNat - 1 := by
        rw [← h, wAt, List.getElem?_set_self (by rw [fullK_len]; exact hi)]
        rfl
      rw [e, Nat.testBit_two_pow_sub_one]
      rw [decide_eq_decide]
      omega
    · have e : wAt ((fullK (sizeE width) (sizeE width)).set (sizeE width - 1) (2 ^ (near width % 64).toNat - 1)) i = wAt (fullK (sizeE width) (sizeE width)) i := by
        rw [wAt, List.getElem?_set_ne (fun e => h e.symm)]
        rfl
      rw [e, hfk, hone]
      symm
      rw [decide_eq_true_eq]
      omega
  · rw [hfk, hone]
    symm
    rw [decide_eq_true_eq]
    omega
/-- Whether a set is one of a width: number by number. -/
def fitsE (zs : List Nat) (width : Int) : Bool := decide (zs.length = sizeE width) && decide (∀ n, n < 64 * zs.length → near width ≤ (n : Int) → hasE zs (n : Nat) = false)
theorem fits_eq (zs : List Nat) (width : Int) (hz : ∀ z ∈ zs, z < 18446744073709551616) (hl : zs.length = sizeE width) : subE zs (fullE width) = decide (∀ n, n < 64 * zs.length → near width ≤ (n : Int) → hasE zs (n : Nat) = false) := by
  rw [Bool.eq_iff_iff, subE_iff hz (fullE_lt width), decide_eq_true_eq]
  constructor
  · intro h n hn hw
    have h1 := (sub_iff _ _ (wAt_lt hz (n / 64)) (wAt_lt (fullE_lt width) (n / 64))).1 (h (n / 64)) (n % 64)
    rw [fullE_bit width (n / 64) (n % 64) (by omega) (by omega), ← hasE_at _ _ _ (by omega), show 64 * (n / 64) + n % 64 = n by omega] at h1
    cases hh : hasE zs (n : Nat) with
    | false => rfl
    | true =>
      have := h1 hh
      rw [decide_eq_true_eq] at this
      omega
  · intro h i
    refine (sub_iff _ _ (wAt_lt hz i) (wAt_lt (fullE_lt width) i)).2 fun j hj => ?_
    by_cases hi : i < zs.length
    · by_cases hj64 : j < 64
      · rw [fullE_bit width i j (by omega) hj64, decide_eq_true_eq]
        rcases Int.lt_or_le ((64 * i + j : Nat) : Int) (near width) with h' | h'
        · exact h'
        · have h2 := h (64 * i + j) (by omega) h'
          rw [hasE_at _ _ _ hj64, hj] at h2
          cases h2
      · exfalso
        have : (wAt zs i).testBit j = false := Nat.testBit_lt_two_pow (Nat.lt_of_lt_of_le (wAt_lt hz i) (Nat.pow_le_pow_right (n := 2) (by decide) (show 64 ≤ j by omega)))
        rw [hj] at this
        cases this
    · exfalso
      have : wAt zs i = 0 := by unfold wAt; rw [List.getElem?_eq_none (by omega)]; rfl
      rw [this, Nat.zero_testBit] at hj
      cases hj
theorem full_count : (∀ W : Fin 201, lenE (fullE (W.val : Int)) = W.val) ∧ lenE (fullE 1024) = 1024 := by decide +kernel
theorem full_len (width : Int) (h : ¬ (200 < width ∧ width < 1024)) : ((lenE (fullE width) : Nat) : Int) = near width := by
  rw [← fullE_near]
  have hn := near_bd width
  by_cases h2 : near width ≤ 200
  · have := full_count.1 ⟨(near width).toNat, by omega⟩
    have e : (((near width).toNat : Nat) : Int) = near width := by omega
    simp only [e] at this
    rw [this, e]
  · have e : near width = 1024 := by unfold near at *; omega
    rw [e, full_count.2]; rfl

end Go.Proofs.Yteheckcflnogbaa

/-
  gauss.Wrap, gauss.Of, and the document's own: contracts.
-/
namespace Go.Proofs.Yteheckcflnogbaa
open Go.RowKit

/-- The number from -2^15 to 2^15 - 1 that is n modulo 2^16. -/
def wr (n : Int) : Int := (n + 32768) % 65536 - 32768
theorem wr_bd (n : Int) : -32768 ≤ wr n ∧ wr n ≤ 32767 := by unfold wr; omega
theorem wr_i16 (n : Int) : IntKind.i16.wrap n = wr n := by
  unfold IntKind.wrap wr; simp [IntKind.bits, IntKind.signed]; split <;> omega

theorem tmod_bd (n : Int) : -65535 ≤ n.tmod 65536 ∧ n.tmod 65536 ≤ 65535 ∧ ∃ q : Int, n = 65536 * q + n.tmod 65536 := by
  have h1 := Int.tmod_lt_of_pos n (show (0 : Int) < 65536 by omega)
  have h2 := Int.lt_tmod_of_pos n (show (0 : Int) < 65536 by omega)
  have h3 := Int.tmod_add_mul_tdiv n 65536
  exact ⟨by omega, by omega, n.tdiv 65536, by omega⟩

theorem rwrap_eq (n : Int) : wrap64 ((wrap64 (n.tmod 65536 + 98304)).tmod 65536 - 32768) = wr n := by
  obtain ⟨h1, h2, q, h3⟩ := tmod_bd n
  generalize n.tmod 65536 = t at *
  rw [IntWalk.wrap64_in (t + 98304) ⟨by omega, by omega⟩]
  obtain ⟨h4, h5, r, h6⟩ := tmod_bd (t + 98304)
  have h7 : (t + 98304).tmod 65536 = (t + 98304) % 65536 := Int.tmod_eq_emod_of_nonneg (by omega)
  rw [h7, IntWalk.wrap64_in _ ⟨by omega, by omega⟩]
  unfold wr
  omega

theorem wrap_any (n : Int) (w : World) :
    Calls Try.prog 201 #[.int .i64 n] w fun e w' => e = .returned (.int .i64 (wr n)) ∧ w = w' := by
  have hb := wr_bd n
  go_enter Try.func201, Try.ntmps201
  go_wp2
  go_ret
  exact ⟨ret_int (by rw [wr_i16, IntWalk.wrap64_in _ ⟨by omega, by omega⟩]), rfl⟩

theorem of_any (a b : Int) (w : World) :
    Calls Try.prog 188 #[.int .i64 a, .int .i64 b] w fun e w' => e = .returned (.agg #[.int .i64 (wr a), .int .i64 (wr b)]) ∧ Below w.heap.size w w' := by
  go_enter Try.func188, Try.ntmps188
  go_wp2_with (go_at_call 201; refine (wrap_any _ _).mono ?_; rintro e w' ⟨rfl, rfl⟩)
  exact bodyPost_ret (v := .agg #[.int .i64 (wr a), .int .i64 (wr b)]) (by simp [results, Try.results188, go_sem]) rfl ⟨rfl, (Below.refl _ _).alloc (Nat.le_refl _) _⟩

end Go.Proofs.Yteheckcflnogbaa

/-
  gauss.Word, gauss.Unword: contracts.
-/
namespace Go.Proofs.Yteheckcflnogbaa
open Go.RowKit

/-- A number as 32 bits. -/
def word (a b : Int) : Int := a % 65536 + b % 65536 * 65536
theorem word_bd (a b : Int) : 0 ≤ word a b ∧ word a b < 4294967296 := by unfold word; omega
theorem u16_eq (x : Int) : IntKind.u16.wrap x = x % 65536 := by
  unfold IntKind.wrap; simp [IntKind.bits, IntKind.signed]
theorem wr_mod (x : Int) : wr (x % 65536) = wr x := by unfold wr; omega


theorem unword_big (x : Int) (w : World) (h : 4294967296 ≤ x) :
    Calls Try.prog 180 #[.int .u64 x] w fun e w' => e = .returned (.tuple #[.agg #[.int .i64 0, .int .i64 0], .bool false]) ∧ Below w.heap.size w w' := by
  go_enter Try.func180, Try.ntmps180
  go_wp2
  exact bodyPost_ret (v := .tuple #[.agg #[.int .i64 0, .int .i64 0], .bool false]) (by simp [results, Try.results180, go_sem]) rfl ⟨rfl, (Below.refl _ _).alloc (Nat.le_refl _) _⟩

/-- What an object of two cells that was just made holds, behind a call. -/
theorem pair_behind {w w1 : World} {u v : Value} {t : TypeId} (h : Below (w.alloc (.cells #[u, v] t)).heap.size (w.alloc (.cells #[u, v] t)) w1) :
    w1.cell? ⟨w.heap.size, 0, none⟩ = some u ∧ w1.cell? ⟨w.heap.size, 1, none⟩ = some v ∧ w1.frozen? ⟨w.heap.size, 0, none⟩ = false ∧ w1.frozen? ⟨w.heap.size, 1, none⟩ = false := by
  have c0 : (w.alloc (.cells #[u, v] t)).cell? ⟨w.heap.size, 0, none⟩ = some u := by go_simp
  have c1 : (w.alloc (.cells #[u, v] t)).cell? ⟨w.heap.size, 1, none⟩ = some v := by go_simp
  have f0 : (w.alloc (.cells #[u, v] t)).frozen? ⟨w.heap.size, 0, none⟩ = false := by go_simp
  have f1 : (w.alloc (.cells #[u, v] t)).frozen? ⟨w.heap.size, 1, none⟩ = false := by go_simp
  exact ⟨keepc c0 h, keepc c1 h, keepf c0 f0 h, keepf c1 f1 h⟩

theorem pair_end {w w1 : World} {o : Obj} (h : Below (w.alloc o).heap.size (w.alloc o) w1) (u v : Value) :
    Below w.heap.size w ((w1.setCell ⟨w.heap.size, 0, none⟩ u).setCell ⟨w.heap.size, 1, none⟩ v) :=
  ((((Below.refl w.heap.size w).alloc (Nat.le_refl _) o).trans (h.mono (by simp))).setCell (Nat.le_refl _) _).setCell (Nat.le_refl _) _

theorem unword_small (x : Int) (w : World) (h0 : 0 ≤ x) (h : x < 4294967296) :
    Calls Try.prog 180 #[.int .u64 x] w fun e w' => e = .returned (.tuple #[.agg #[.int .i64 (wr x), .int .i64 (wr (x / 65536))], .bool true]) ∧ Below w.heap.size w w' := by
  go_enter Try.func180, Try.ntmps180
  go_wp2_with fail
  refine (of_any _ _ _).mono ?_
  rintro e w1 ⟨rfl, hB⟩
  have e1 : wr (wrap64 (IntKind.u16.wrap x)) = wr x := by rw [u16_eq, IntWalk.wrap64_in _ ⟨by omega, by omega⟩, wr_mod]
  rw [e1]
  obtain ⟨k0, k1, f0, f1⟩ := pair_behind hB
  have HB := Lib.hid hB
  clear hB e1
  go_wp2_with fail
  exact bodyPost_ret (v := .tuple #[.agg #[.int .i64 (wr x), .int .i64 (wr (x / 65536))], .bool true]) (by simp [results, Try.results180, go_sem, k0, k1]) rfl ⟨rfl, pair_end HB.out _ _⟩

end Go.Proofs.Yteheckcflnogbaa

/-
  constant.Num, Is, sound, Of: contracts.
-/
namespace Go.Proofs.Yteheckcflnogbaa
open Go.RowKit

/-- Is a word a number's? -/
def isn (x : Int) : Bool := decide (x % 4 = 2 ∧ x / 4 < 4294967296)
def numv (x : Int) : Int × Int := if isn x then (wr (x / 4), wr (x / 4 / 65536)) else (0, 0)
/-- The word that a word counts as. -/
def sou (x : Int) : Int := if isn x then x else if x = 0 then 0 else 1

theorem num_any (x : Int) (w : World) (h0 : 0 ≤ x ∧ x ≤ 18446744073709551615) :
    Calls Try.prog 159 #[.int .u64 x] w fun e w' => e = .returned (.tuple #[.agg #[.int .i64 (numv x).1, .int .i64 (numv x).2], .bool (isn x)]) ∧ Below w.heap.size w w' := by
  by_cases h1 : x % 4 = 2
  · by_cases h2 : x / 4 < 4294967296
    · have hi : isn x = true := by simp [isn, h1, h2]
      have hn : numv x = (wr (x / 4), wr (x / 4 / 65536)) := by simp [numv, hi]
      rw [hi, hn]
      clear hi hn
      have hm : (x % 4 != 2) = false := by simp [h1]
      have H1 := Lib.hid h1
      clear h1
      go_enter Try.func159, Try.ntmps159
      go_wp2_with fail
      refine (unword_small _ _ (by omega) h2).mono ?_
      rintro e w1 ⟨rfl, hB⟩
      obtain ⟨k0, k1, f0, f1⟩ := pair_behind hB
      have HB := Lib.hid hB
      clear hB hm h2
      go_wp2_with fail
      exact bodyPost_ret (v := .tuple #[.agg #[.int .i64 (wr (x / 4)), .int .i64 (wr (x / 4 / 65536))], .bool true]) (by simp [results, Try.results159, go_sem, k0, k1]) rfl ⟨rfl, pair_end HB.out _ _⟩
    · have hi : isn x = false := by simp [isn, h1]; omega
      have hn : numv x = (0, 0) := by simp [numv, hi]
      rw [hi, hn]
      clear hi hn
      have hm : (x % 4 != 2) = false := by simp [h1]
      have H1 := Lib.hid h1
      clear h1
      go_enter Try.func159, Try.ntmps159
      go_wp2_with fail
      refine (unword_big _ _ (by omega)).mono ?_
      rintro e w1 ⟨rfl, hB⟩
      obtain ⟨k0, k1, f0, f1⟩ := pair_behind hB
      have HB := Lib.hid hB
      clear hB hm h2
      go_wp2_with fail
      exact bodyPost_ret (v := .tuple #[.agg #[.int .i64 0, .int .i64 0], .bool false]) (by simp [results, Try.results159, go_sem, k0, k1]) rfl ⟨rfl, pair_end HB.out _ _⟩
  · have hi : isn x = false := by simp [isn, h1]
    have hn : numv x = (0, 0) := by simp [numv, hi]
    rw [hi, hn]
    clear hi hn
    have hm : (x % 4 != 2) = true := by simp [h1]
    have H1 := Lib.hid h1
    clear h1
    go_enter Try.func159, Try.ntmps159
    go_wp2_with fail
    exact bodyPost_ret (v := .tuple #[.agg #[.int .i64 0, .int .i64 0], .bool false]) (by simp [results, Try.results159, go_sem]) rfl ⟨rfl, (Below.refl _ _).alloc (Nat.le_refl _) _⟩

theorem is_any (x : Int) (w : World) (h0 : 0 ≤ x ∧ x ≤ 18446744073709551615) :
    Calls Try.prog 102 #[.int .u64 x] w fun e w' => e = .returned (.bool (isn x || decide (x = 0 ∨ x = 1))) ∧ Below w.heap.size w w' := by
  by_cases hi : isn x = true
  · have Hr := Lib.hid (show Ending.returned (.bool (isn x || decide (x = 0 ∨ x = 1))) = .returned (.bool true) by rw [hi]; rfl)
    go_enter Try.func102, Try.ntmps102
    go_wp2_with (go_at_call 159; refine (num_any _ _ h0).mono ?_; rintro e w1 ⟨rfl, hB⟩)
    go_ret
    exact ⟨Hr.out.symm, hB.alloc hB.size _⟩
  · have hi : isn x = false := by simpa using hi
    rcases (show x = 0 ∨ x = 1 ∨ (x ≠ 0 ∧ x ≠ 1) from by omega) with rfl | rfl | ⟨h1, h2⟩
    · go_enter Try.func102, Try.ntmps102
      go_wp2_with (go_at_call 159; refine (num_any _ _ h0).mono ?_; rintro e w1 ⟨rfl, hB⟩)
      go_ret
      exact ⟨by simp, hB.alloc hB.size _⟩
    · go_enter Try.func102, Try.ntmps102
      go_wp2_with (go_at_call 159; refine (num_any _ _ h0).mono ?_; rintro e w1 ⟨rfl, hB⟩)
      go_ret
      exact ⟨by simp, hB.alloc hB.size _⟩
    · have e1 : (x == 0) = false := by simpa using h1
      have e2 : (x == 1) = false := by simpa using h2
      have Hr := Lib.hid (show Ending.returned (.bool (isn x || decide (x = 0 ∨ x = 1))) = .returned (.bool false) by rw [hi]; simp [h1, h2])
      clear h1 h2
      go_enter Try.func102, Try.ntmps102
      go_wp2_with (go_at_call 159; refine (num_any _ _ h0).mono ?_; rintro e w1 ⟨rfl, hB⟩)
      go_ret
      exact ⟨Hr.out.symm, hB.alloc hB.size _⟩

theorem sound_any (x : Int) (w : World) (h0 : 0 ≤ x ∧ x ≤ 18446744073709551615) :
    Calls Try.prog 163 #[.int .u64 x] w fun e w' => e = .returned (.int .u64 (sou x)) ∧ Below w.heap.size w w' := by
  by_cases hi : (isn x || decide (x = 0 ∨ x = 1)) = true
  · have hs : sou x = x := by
      unfold sou
      by_cases h : isn x = true
      · simp [h]
      · simp [h] at hi ⊢; omega
    have Hs := Lib.hid hs
    clear hs
    go_enter Try.func163, Try.ntmps163
    go_wp2_with fail
    refine (is_any _ _ h0).mono ?_
    rintro e w1 ⟨rfl, hB⟩
    rw [hi]
    clear hi
    go_wp2_with fail
    go_ret
    exact ⟨ret_int Hs.out.symm, hB⟩
  · have hi : (isn x || decide (x = 0 ∨ x = 1)) = false := by simpa using hi
    have hs : sou x = 1 := by
      unfold sou
      have h : isn x = false := by simp at hi; exact hi.1
      simp [h] at hi ⊢; omega
    have Hs := Lib.hid hs
    clear hs
    go_enter Try.func163, Try.ntmps163
    go_wp2_with fail
    refine (is_any _ _ h0).mono ?_
    rintro e w1 ⟨rfl, hB⟩
    rw [hi]
    clear hi
    go_wp2_with fail
    go_ret
    exact ⟨ret_int Hs.out.symm, hB⟩


end Go.Proofs.Yteheckcflnogbaa

/-
  constant.Join, Below, Rank: contracts.
-/
namespace Go.Proofs.Yteheckcflnogbaa
open Go.RowKit

theorem sou_bd (x : Int) (h : 0 ≤ x ∧ x ≤ 18446744073709551615) : 0 ≤ sou x ∧ sou x ≤ 18446744073709551615 := by
  unfold sou; split
  · exact h
  · split <;> omega
/-- The less known of two. -/
def cjoin (a b : Int) : Int := if sou a = sou b ∨ sou b = 0 then sou a else if sou a = 0 then sou b else 1
def crank (a : Int) : Int := if sou a = 0 then 0 else if sou a = 1 then 2 else 1

theorem join_any (a b : Int) (w : World) (ha : 0 ≤ a ∧ a ≤ 18446744073709551615) (hb : 0 ≤ b ∧ b ≤ 18446744073709551615) :
    Calls Try.prog 109 #[.int .u64 a, .int .u64 b] w fun e w' => e = .returned (.int .u64 (cjoin a b)) ∧ Below w.heap.size w w' := by
  have hj : ∀ v, cjoin a b = v → Ending.returned (.int .u64 (cjoin a b)) = .returned (.int .u64 v) := fun v h => by rw [h]
  have Hj := Lib.hid hj
  clear hj
  go_enter Try.func109, Try.ntmps109
  go_wp2_with fail
  refine (sound_any _ _ ha).mono ?_
  rintro e w1 ⟨rfl, hB⟩
  go_wp2_with fail
  refine (sound_any _ _ hb).mono ?_
  rintro e w2 ⟨rfl, hB2⟩
  have HB := Lib.hid (bel_then hB hB2)
  clear hB hB2
  have hc : ∀ v, (if sou a = sou b ∨ sou b = 0 then sou a else if sou a = 0 then sou b else 1) = v → cjoin a b = v := fun v h => h
  have Hc := Lib.hid hc
  clear hc
  generalize sou a = x at *
  generalize sou b = y at *
  clear ha hb
  by_cases h1 : x = y
  · subst h1
    go_wp2_with fail
    go_ret
    exact ⟨(Hj.out _ (Hc.out _ (by simp))).symm, HB.out⟩
  · have e1 : (x == y) = false := by simpa using h1
    by_cases h2 : y = 0
    · subst h2
      go_wp2_with fail
      go_ret
      exact ⟨(Hj.out _ (Hc.out _ (by simp))).symm, HB.out⟩
    · have e2 : (y == 0) = false := by simpa using h2
      by_cases h3 : x = 0
      · subst h3
        have H2 := Lib.hid h2
        have H1 := Lib.hid h1
        clear h1 h2
        go_wp2_with fail
        go_ret
        exact ⟨(Hj.out _ (Hc.out _ (by simp [H1.out, H2.out]))).symm, HB.out⟩
      · have e3 : (x == 0) = false := by simpa using h3
        have H2 := Lib.hid h2
        have H1 := Lib.hid h1
        have H3 := Lib.hid h3
        clear h1 h2 h3
        go_wp2_with fail
        go_ret
        exact ⟨(Hj.out _ (Hc.out _ (by simp [H1.out, H2.out, H3.out]))).symm, HB.out⟩

theorem rank_any (a : Int) (w : World) (ha : 0 ≤ a ∧ a ≤ 18446744073709551615) :
    Calls Try.prog 108 #[.int .u64 a] w fun e w' => e = .returned (.int .i64 (crank a)) ∧ Below w.heap.size w w' := by
  have hj : ∀ v, (if sou a = 0 then 0 else if sou a = 1 then 2 else 1) = v → Ending.returned (.int .i64 (crank a)) = .returned (.int .i64 v) := fun v h => ret_int h
  have Hj := Lib.hid hj
  clear hj
  go_enter Try.func108, Try.ntmps108
  go_wp2_with fail
  refine (sound_any _ _ ha).mono ?_
  rintro e w1 ⟨rfl, hB⟩
  have HB := Lib.hid hB
  clear hB ha
  generalize sou a = x at *
  rcases (show x = 0 ∨ x = 1 ∨ (x ≠ 0 ∧ x ≠ 1) from by omega) with rfl | rfl | ⟨h1, h2⟩
  · go_wp2_with fail
    go_ret
    exact ⟨(Hj.out _ (by simp)).symm, HB.out⟩
  · go_wp2_with fail
    go_ret
    exact ⟨(Hj.out _ (by simp)).symm, HB.out⟩
  · have e1 : (x == 0) = false := by simpa using h1
    have e2 : (x == 1) = false := by simpa using h2
    have H := Lib.hid (And.intro h1 h2)
    clear h1 h2
    go_wp2_with fail
    go_ret
    exact ⟨(Hj.out _ (by simp [H.out.1, H.out.2])).symm, HB.out⟩

end Go.Proofs.Yteheckcflnogbaa

/-
  Lattices of words: mathematics. No program.
-/
namespace Go.Proofs.Yteheckcflnogbaa
open Go.RowKit

/-! ### The order of words that are known -/
theorem sou_sou' (a : Int) : sou (sou a) = sou a := by
  by_cases h : isn a = true
  · have e : sou a = a := by unfold sou; rw [if_pos h]
    rw [e, e]
  · have e : sou a = if a = 0 then 0 else 1 := by unfold sou; rw [if_neg h]
    rw [e]
    split <;> decide
theorem sou_join' (a b : Int) : sou (cjoin a b) = cjoin a b := by
  unfold cjoin
  split
  · exact sou_sou' a
  · split
    · exact sou_sou' b
    · decide
theorem sou_bd' (x : Int) (h : 0 ≤ x ∧ x < 18446744073709551616) : 0 ≤ sou x ∧ sou x < 18446744073709551616 := by
  unfold sou; split
  · exact h
  · split <;> omega
theorem cjoin_bd' (a b : Int) (ha : 0 ≤ a ∧ a < 18446744073709551616) (hb : 0 ≤ b ∧ b < 18446744073709551616) : 0 ≤ cjoin a b ∧ cjoin a b < 18446744073709551616 := by
  have h1 := sou_bd' a ha
  have h2 := sou_bd' b hb
  unfold cjoin; split
  · exact h1
  · split
    · exact h2
    · omega
theorem cjoin_comm (a b : Int) : cjoin a b = cjoin b a := by
  unfold cjoin
  generalize sou a = x
  generalize sou b = y
  split <;> split <;> (try split) <;> (try split) <;> omega
theorem crank_bd (a : Int) : 0 ≤ crank a ∧ crank a ≤ 2 := by
  unfold crank; split
  · omega
  · split <;> omega

/-! ### Two words put together, of any kind -/
def wordE (what : Int) (x y : Nat) : Nat := if what = 1 then orN x y else if what = 2 then andN x y else if what = 3 then (cjoin (x : Int) (y : Int)).toNat else 0
theorem wordE_lt (what : Int) (x y : Nat) (hx : x < 18446744073709551616) (hy : y < 18446744073709551616) : wordE what x y < 18446744073709551616 := by
  unfold wordE
  split
  · exact orN_lt _ _ hx hy
  · split
    · exact andN_lt _ _ hx hy
    · split
      · have := cjoin_bd' x y (by omega) (by omega)
        omega
      · omega
theorem wordE_zero (what : Int) : wordE what 0 0 = 0 := by
  unfold wordE
  split
  · rfl
  · split
    · rfl
    · split
      · decide
      · rfl
/-- Which kinds and widths there are. -/
def isL (what width : Int) : Bool := decide (1 ≤ what ∧ what ≤ 3 ∧ 0 ≤ width ∧ width ≤ 1024)
def wordsN (what width : Int) : Nat := if isL what width then (if what = 3 then width.toNat else sizeE width) else 0
theorem wordsN_le (what width : Int) : wordsN what width ≤ 1024 := by
  unfold wordsN
  split
  · next h =>
    simp only [isL, decide_eq_true_eq] at h
    split
    · omega
    · have := sizeE_le width; omega
  · omega
theorem isL_near {what width : Int} (h : isL what width = true) : near width = width := by
  simp only [isL, decide_eq_true_eq] at h
  unfold near; omega
def souN (z : Nat) : Bool := sou (z : Int) == (z : Int)
/-- Whether words are a value. -/
def valueE (what width : Int) (a : List Nat) : Bool := isL what width && (decide (a.length = wordsN what width) && (if what = 3 then a.all souN else fitsE a width))
def bottomE (what width : Int) : List Nat := if what = 2 ∧ isL what width = true then fullE width else List.replicate (wordsN what width) 0
def topE (what width : Int) : List Nat := if what = 1 ∧ isL what width = true then fullE width else List.replicate (wordsN what width) (if what = 3 then 1 else 0)
def crankN (z : Nat) : Nat := (crank (z : Int)).toNat
def rankE (what width : Int) (a : List Nat) : Int := if what = 3 then ((a.map crankN).sum : Nat) else if what = 2 then width - (lenE a : Nat) else (lenE a : Nat)
def heightE (what width : Int) : Int := if isL what width then (if what = 3 then 2 * width else width) else 0
def joinE (what : Int) (a b : List Nat) : List Nat := bothE (wordE what) a b
/-- Below, of values of one length. -/
def belowE (what : Int) (a b : List Nat) : Bool := decide (joinE what a b = b)

theorem ext_at {a b : List Nat} (hl : a.length = b.length) (h : ∀ i, i < a.length → wAt a i = wAt b i) : a = b := by
  refine List.ext_getElem hl fun i h1 h2 => ?_
  have e := h i h1
  unfold wAt at e
  rw [List.getElem?_eq_getElem h1, List.getElem?_eq_getElem h2] at e
  exact e
theorem joinE_at (what : Int) (a b : List Nat) (i : Nat) : wAt (joinE what a b) i = wordE what (wAt a i) (wAt b i) := bothE_at _ (wordE_zero what) a b i
theorem joinE_len (what : Int) {a b : List Nat} (h : a.length = b.length) : (joinE what a b).length = a.length := by
  unfold joinE; rw [bothE_len]; omega
theorem belowE_iff (what : Int) {a b : List Nat} (h : a.length = b.length) : belowE what a b = true ↔ ∀ i, wordE what (wAt a i) (wAt b i) = wAt b i := by
  unfold belowE
  rw [decide_eq_true_eq]
  constructor
  · intro e i
    rw [← joinE_at, e]
  · intro e
    exact ext_at (by rw [joinE_len what h, h]) fun i _ => by rw [joinE_at, e i]
section
variable {what width : Int} {a b c : List Nat}
theorem value_is (h : valueE what width a = true) : isL what width = true := by
  unfold valueE at h; rw [Bool.and_eq_true] at h; exact h.1
theorem value_len (h : valueE what width a = true) : a.length = wordsN what width := by
  unfold valueE at h; rw [Bool.and_eq_true, Bool.and_eq_true] at h; exact of_decide_eq_true h.2.1
theorem value_sou (h : valueE what width a = true) (e : what = 3) (i : Nat) : sou (wAt a i : Nat) = (wAt a i : Nat) := by
  unfold valueE at h; rw [Bool.and_eq_true, Bool.and_eq_true] at h
  have h2 := h.2.2
  rw [if_pos e, List.all_eq_true] at h2
  unfold wAt
  by_cases hi : i < a.length
  · have := h2 _ (List.getElem_mem hi)
    unfold souN at this
    rw [beq_iff_eq] at this
    rw [List.getElem?_eq_getElem hi]
    exact this
  · rw [List.getElem?_eq_none (by omega)]; decide
theorem value_fit (h : valueE what width a = true) (e : what ≠ 3) : fitsE a width = true := by
  unfold valueE at h; rw [Bool.and_eq_true, Bool.and_eq_true] at h
  have h2 := h.2.2
  rw [if_neg e] at h2
  exact h2
theorem fits_bits (hz : ∀ z ∈ a, z < 18446744073709551616) (h : fitsE a width = true) (i k : Nat) (hk : (wAt a i).testBit k = true) : (wAt (fullE width) i).testBit k = true := by
  unfold fitsE at h
  rw [Bool.and_eq_true, decide_eq_true_eq] at h
  have h2 := h.2
  rw [← fits_eq a width hz h.1, subE_iff hz (fullE_lt width)] at h2
  exact (sub_iff _ _ (wAt_lt hz i) (wAt_lt (fullE_lt width) i)).1 (h2 i) k hk
theorem fits_of (hz : ∀ z ∈ a, z < 18446744073709551616) (hl : a.length = sizeE width) (h : ∀ i k, (wAt a i).testBit k = true → (wAt (fullE width) i).testBit k = true) : fitsE a width = true := by
  unfold fitsE
  rw [decide_eq_true hl, Bool.true_and, ← fits_eq a width hz hl, subE_iff hz (fullE_lt width)]
  exact fun i => (sub_iff _ _ (wAt_lt hz i) (wAt_lt (fullE_lt width) i)).2 (h i)
end
/-- The words of a value put together. -/
theorem word3 {x y : Nat} (hx : x < 18446744073709551616) (hy : y < 18446744073709551616) : ((wordE 3 x y : Nat) : Int) = cjoin x y := by
  have := cjoin_bd' x y (by omega) (by omega)
  show (((cjoin (x : Int) (y : Int)).toNat : Nat) : Int) = _
  omega
theorem word_what {what : Int} (h : 1 ≤ what ∧ what ≤ 3) : what = 1 ∨ what = 2 ∨ what = 3 := by omega

section
variable {what width : Int} {a b c : List Nat} (ha : ∀ z ∈ a, z < 18446744073709551616) (hb : ∀ z ∈ b, z < 18446744073709551616) (hc : ∀ z ∈ c, z < 18446744073709551616)
theorem isL_what (h : isL what width = true) : what = 1 ∨ what = 2 ∨ what = 3 := by
  simp only [isL, decide_eq_true_eq] at h; omega
theorem join_comm : joinE what a b = joinE what b a := by
  refine ext_at (by unfold joinE; rw [bothE_len, bothE_len]; omega) fun i _ => ?_
  rw [joinE_at, joinE_at]
  unfold wordE
  split
  · exact Nat.or_comm _ _
  · split
    · exact Nat.and_comm _ _
    · split
      · rw [cjoin_comm]
      · rfl
include ha hb in
theorem join_lt : ∀ z ∈ joinE what a b, z < 18446744073709551616 := bothE_lt (wordE_lt what) ha hb
include ha hb in
theorem join_value (va : valueE what width a = true) (vb : valueE what width b = true) : valueE what width (joinE what a b) = true := by
  have hl := joinE_len what (a := a) (b := b) (by rw [value_len va, value_len vb])
  have hw := isL_what (value_is va)
  unfold valueE
  rw [value_is va, hl, decide_eq_true (value_len va), Bool.true_and, Bool.true_and]
  by_cases e : what = 3
  · rw [if_pos e, List.all_eq_true]
    intro z hz
    obtain ⟨i, _, rfl⟩ := List.mem_map.1 hz
    unfold souN
    rw [beq_iff_eq, e, word3 (wAt_lt ha i) (wAt_lt hb i), sou_join']
  · rw [if_neg e]
    have hsz : wordsN what width = sizeE width := by unfold wordsN; rw [if_pos (value_is va), if_neg e]
    refine fits_of (join_lt ha hb) (by rw [hl, value_len va, hsz]) fun i k hk => ?_
    rw [joinE_at] at hk
    rcases hw with rfl | rfl | rfl
    · have hk : (orN (wAt a i) (wAt b i)).testBit k = true := hk
      rw [or_bits, Bool.or_eq_true] at hk
      rcases hk with hk | hk
      · exact fits_bits ha (value_fit va e) i k hk
      · exact fits_bits hb (value_fit vb e) i k hk
    · have hk : (andN (wAt a i) (wAt b i)).testBit k = true := hk
      rw [and_bits, Bool.and_eq_true] at hk
      exact fits_bits ha (value_fit va e) i k hk.1
    · exact absurd rfl e
include ha hb in
theorem below_join (va : valueE what width a = true) (vb : valueE what width b = true) : belowE what a (joinE what a b) = true := by
  rw [belowE_iff what (by rw [joinE_len what (by rw [value_len va, value_len vb])])]
  intro i
  rw [joinE_at]
  rcases isL_what (value_is va) with rfl | rfl | rfl
  · show orN (wAt a i) (orN (wAt a i) (wAt b i)) = orN (wAt a i) (wAt b i)
    unfold orN; rw [← Nat.or_assoc, Nat.or_self]
  · show andN (wAt a i) (andN (wAt a i) (wAt b i)) = andN (wAt a i) (wAt b i)
    unfold andN; rw [← Nat.and_assoc, Nat.and_self]
  · have h := word3 (wAt_lt ha i) (wAt_lt hb i)
    have h2 := word3 (wAt_lt ha i) (wordE_lt 3 _ _ (wAt_lt ha i) (wAt_lt hb i))
    have e : cjoin (wAt a i) (cjoin (wAt a i) (wAt b i)) = cjoin (wAt a i) (wAt b i) := by
      have h3 := sou_join' (wAt a i) (wAt b i)
      revert h3
      generalize hq : cjoin (wAt a i : Int) (wAt b i) = q
      intro h3
      unfold cjoin at hq ⊢
      rw [h3]
      revert hq
      generalize sou (wAt a i : Int) = x
      generalize sou (wAt b i : Int) = y
      intro hq
      split at hq <;> (try split at hq) <;> split <;> (try split) <;> omega
    rw [h, e, ← h] at h2
    exact Int.ofNat_inj.1 h2
include ha hb hc in
theorem join_least' (va : valueE what width a = true) (vb : valueE what width b = true) (vc : valueE what width c = true) (h : belowE what a c = true) (k : belowE what b c = true) : belowE what (joinE what a b) c = true := by
  have la := value_len va
  have lb := value_len vb
  have lc := value_len vc
  rw [belowE_iff what (by omega)] at h k
  rw [belowE_iff what (by rw [joinE_len what (by omega)]; omega)]
  intro i
  have h := h i
  have k := k i
  rw [joinE_at]
  rcases isL_what (value_is va) with rfl | rfl | rfl
  · have h : orN (wAt a i) (wAt c i) = wAt c i := h
    have k : orN (wAt b i) (wAt c i) = wAt c i := k
    show orN (orN (wAt a i) (wAt b i)) (wAt c i) = wAt c i
    unfold orN at *; rw [Nat.or_assoc, k, h]
  · have h : andN (wAt a i) (wAt c i) = wAt c i := h
    have k : andN (wAt b i) (wAt c i) = wAt c i := k
    show andN (andN (wAt a i) (wAt b i)) (wAt c i) = wAt c i
    unfold andN at *; rw [Nat.and_assoc, k, h]
  · have e1 := word3 (wAt_lt ha i) (wAt_lt hc i)
    have e2 := word3 (wAt_lt hb i) (wAt_lt hc i)
    have e3 := word3 (wAt_lt ha i) (wAt_lt hb i)
    have e4 := word3 (wordE_lt 3 _ _ (wAt_lt ha i) (wAt_lt hb i)) (wAt_lt hc i)
    have h3 := sou_join' (wAt a i) (wAt b i)
    have sc := value_sou vc rfl i
    rw [h] at e1
    rw [k] at e2
    rw [e3] at e4
    refine Int.ofNat_inj.1 (e4.trans ?_)
    revert e1 e2 h3
    generalize hq : cjoin (wAt a i : Int) (wAt b i) = q
    intro e1 e2 h3
    unfold cjoin at hq e1 e2 ⊢
    rw [h3, sc]
    rw [sc] at e1 e2
    revert hq e1 e2
    generalize sou (wAt a i : Int) = x
    generalize sou (wAt b i : Int) = y
    generalize (wAt c i : Int) = z
    intro hq e1 e2
    split at hq <;> split at e1 <;> split at e2 <;> (try split at hq) <;> (try split at e1) <;> (try split at e2) <;> split <;> (try split) <;> omega
end

end Go.Proofs.Yteheckcflnogbaa

/-
  Lattices of words: the least and the greatest value, ranks: mathematics. No program.
-/
namespace Go.Proofs.Yteheckcflnogbaa
open Go.RowKit

theorem bottom_len (what width : Int) : (bottomE what width).length = wordsN what width := by
  unfold bottomE
  split
  · next h => rw [fullE_len]; unfold wordsN; rw [if_pos h.2, if_neg (by omega)]
  · exact List.length_replicate
theorem top_len (what width : Int) : (topE what width).length = wordsN what width := by
  unfold topE
  split
  · next h => rw [fullE_len]; unfold wordsN; rw [if_pos h.2, if_neg (by omega)]
  · exact List.length_replicate
theorem wAt_rep (n z i : Nat) : wAt (List.replicate n z) i = if i < n then z else 0 := by
  unfold wAt
  rw [List.getElem?_replicate]
  split <;> rfl
theorem bottom_lt (what width : Int) : ∀ z ∈ bottomE what width, z < 18446744073709551616 := by
  unfold bottomE; split
  · exact fullE_lt _
  · intro z hz; rw [List.eq_of_mem_replicate hz]; decide
theorem top_lt (what width : Int) : ∀ z ∈ topE what width, z < 18446744073709551616 := by
  unfold topE; split
  · exact fullE_lt _
  · intro z hz; rw [List.eq_of_mem_replicate hz]; split <;> decide
theorem full_self (width : Int) : fitsE (fullE width) width = true :=
  fits_of (fullE_lt width) (fullE_len width) fun _ _ h => h
theorem zero_fits {width : Int} : fitsE (List.replicate (sizeE width) 0) width = true :=
  fits_of (fun z hz => by rw [List.eq_of_mem_replicate hz]; decide) List.length_replicate fun i k h => by
    rw [wAt_rep, ite_self, Nat.zero_testBit] at h
    cases h
theorem bottom_value {what width : Int} (h : isL what width = true) : valueE what width (bottomE what width) = true := by
  unfold valueE
  rw [h, bottom_len, decide_eq_true rfl, Bool.true_and, Bool.true_and]
  have hw := isL_what h
  by_cases e : what = 3
  · rw [if_pos e, List.all_eq_true]
    intro z hz
    unfold bottomE at hz
    rw [if_neg (by omega)] at hz
    rw [List.eq_of_mem_replicate hz]; decide
  · rw [if_neg e]
    unfold bottomE
    split
    · exact full_self width
    · have : wordsN what width = sizeE width := by unfold wordsN; rw [if_pos h, if_neg e]
      rw [this]; exact zero_fits
theorem top_value {what width : Int} (h : isL what width = true) : valueE what width (topE what width) = true := by
  unfold valueE
  rw [h, top_len, decide_eq_true rfl, Bool.true_and, Bool.true_and]
  by_cases e : what = 3
  · rw [if_pos e, List.all_eq_true]
    intro z hz
    unfold topE at hz
    rw [if_neg (by omega), if_pos e] at hz
    rw [List.eq_of_mem_replicate hz]; decide
  · rw [if_neg e]
    unfold topE
    split
    · exact full_self width
    · have : wordsN what width = sizeE width := by unfold wordsN; rw [if_pos h, if_neg e]
      rw [this]; exact zero_fits
theorem and_full {x y : Nat} (h : ∀ k, x.testBit k = true → y.testBit k = true) : andN y x = x := by
  refine Nat.eq_of_testBit_eq fun k => ?_
  rw [and_bits]
  cases hx : x.testBit k with
  | false => rw [Bool.and_false]
  | true => rw [h k hx]; rfl
theorem or_full {x y : Nat} (h : ∀ k, x.testBit k = true → y.testBit k = true) : orN x y = y := by
  refine Nat.eq_of_testBit_eq fun k => ?_
  rw [or_bits]
  cases hx : x.testBit k with
  | false => rw [Bool.false_or]
  | true => rw [h k hx]; rfl
section
variable {what width : Int} {a b : List Nat} (ha : ∀ z ∈ a, z < 18446744073709551616) (hb : ∀ z ∈ b, z < 18446744073709551616)
include ha in
theorem bottom_below (va : valueE what width a = true) : belowE what (bottomE what width) a = true := by
  rw [belowE_iff what (by rw [bottom_len, value_len va])]
  intro i
  have hL := value_is va
  rcases isL_what hL with rfl | rfl | rfl
  · have e : wAt (bottomE 1 width) i = 0 := by unfold bottomE; rw [if_neg (by omega), wAt_rep, ite_self]
    rw [e]
    exact Nat.zero_or _
  · have e : bottomE 2 width = fullE width := by unfold bottomE; rw [if_pos ⟨rfl, hL⟩]
    rw [e]
    exact and_full fun k hk => fits_bits ha (value_fit va (by decide)) i k hk
  · have e : wAt (bottomE 3 width) i = 0 := by unfold bottomE; rw [if_neg (by omega), wAt_rep, ite_self]
    rw [e]
    refine Int.ofNat_inj.1 ((word3 (by decide) (wAt_lt ha i)).trans ?_)
    have s := value_sou va rfl i
    have z0 : sou ((0 : Nat) : Int) = 0 := by decide
    unfold cjoin
    rw [s, z0]
    generalize (wAt a i : Int) = x
    split <;> (try split) <;> omega
include ha in
theorem below_top (va : valueE what width a = true) : belowE what a (topE what width) = true := by
  rw [belowE_iff what (by rw [top_len, value_len va])]
  intro i
  have hL := value_is va
  rcases isL_what hL with rfl | rfl | rfl
  · have e : topE 1 width = fullE width := by unfold topE; rw [if_pos ⟨rfl, hL⟩]
    rw [e]
    exact or_full fun k hk => fits_bits ha (value_fit va (by decide)) i k hk
  · have e : wAt (topE 2 width) i = 0 := by unfold topE; rw [if_neg (by omega), if_neg (by decide), wAt_rep, ite_self]
    rw [e]
    exact Nat.and_zero _
  · have e : wAt (topE 3 width) i = if i < wordsN 3 width then 1 else 0 := by unfold topE; rw [if_neg (by omega), if_pos rfl, wAt_rep]
    rw [e]
    by_cases hi : i < wordsN 3 width
    · rw [if_pos hi]
      refine Int.ofNat_inj.1 ((word3 (wAt_lt ha i) (by decide)).trans ?_)
      have z1 : sou ((1 : Nat) : Int) = 1 := by decide
      unfold cjoin
      rw [z1]
      generalize sou (wAt a i : Int) = x
      split <;> (try split) <;> omega
    · rw [if_neg hi]
      have e2 : wAt a i = 0 := by unfold wAt; rw [List.getElem?_eq_none (by have := value_len va; omega)]; rfl
      rw [e2]
      exact wordE_zero 3
theorem below_anti (h : belowE what a b = true) (k : belowE what b a = true) : a = b := by
  unfold belowE at h k
  rw [decide_eq_true_eq] at h k
  rw [← h, join_comm, k]
end

/-! ### Ranks -/
theorem lenE_or_min (xs ys : List Nat) (hx : ∀ z ∈ xs, z < 18446744073709551616) (hy : ∀ z ∈ ys, z < 18446744073709551616) : lenE (bothE orN xs ys) = lenE xs + lenE (bothE minN ys xs) := by
  rw [lenE_both, lenE_both, lenE_pad xs (max xs.length ys.length) (by omega), show max ys.length xs.length = max xs.length ys.length by omega]
  have h := sum_add (max xs.length ys.length) (fun i => pop 64 (orN (wAt xs i) (wAt ys i))) (fun _ => 0) (fun i => pop 64 (wAt xs i)) (fun i => pop 64 (minN (wAt ys i) (wAt xs i))) fun i => by
    have e := pop_or_and 64 (wAt xs i) (minN (wAt ys i) (wAt xs i))
    have e1 : wAt xs i ||| minN (wAt ys i) (wAt xs i) = orN (wAt xs i) (wAt ys i) := by
      refine Nat.eq_of_testBit_eq fun k => ?_
      rw [Nat.testBit_or, minN_bit _ _ _ (wAt_lt hy i) (wAt_lt hx i), or_bits]
      cases (wAt xs i).testBit k <;> cases (wAt ys i).testBit k <;> rfl
    have e2 : wAt xs i &&& minN (wAt ys i) (wAt xs i) = 0 := by
      refine Nat.eq_of_testBit_eq fun k => ?_
      rw [Nat.testBit_and, minN_bit _ _ _ (wAt_lt hy i) (wAt_lt hx i), Nat.zero_testBit]
      cases (wAt xs i).testBit k <;> cases (wAt ys i).testBit k <;> rfl
    rw [e1, e2, pop_zero] at e
    exact e
  have z : ((List.range (max xs.length ys.length)).map fun _ => 0).sum = 0 := (sum_zero _ _).2 fun _ _ => rfl
  omega
theorem lenE_and_min (xs ys : List Nat) (hx : ∀ z ∈ xs, z < 18446744073709551616) (hy : ∀ z ∈ ys, z < 18446744073709551616) : lenE xs = lenE (bothE andN xs ys) + lenE (bothE minN xs ys) := by
  rw [lenE_both, lenE_both, lenE_pad xs (max xs.length ys.length) (by omega)]
  have h := sum_add (max xs.length ys.length) (fun i => pop 64 (wAt xs i)) (fun _ => 0) (fun i => pop 64 (andN (wAt xs i) (wAt ys i))) (fun i => pop 64 (minN (wAt xs i) (wAt ys i))) fun i => by
    have e := pop_or_and 64 (andN (wAt xs i) (wAt ys i)) (minN (wAt xs i) (wAt ys i))
    have e1 : andN (wAt xs i) (wAt ys i) ||| minN (wAt xs i) (wAt ys i) = wAt xs i := by
      refine Nat.eq_of_testBit_eq fun k => ?_
      rw [Nat.testBit_or, minN_bit _ _ _ (wAt_lt hx i) (wAt_lt hy i), and_bits]
      cases (wAt xs i).testBit k <;> cases (wAt ys i).testBit k <;> rfl
    have e2 : andN (wAt xs i) (wAt ys i) &&& minN (wAt xs i) (wAt ys i) = 0 := by
      refine Nat.eq_of_testBit_eq fun k => ?_
      rw [Nat.testBit_and, minN_bit _ _ _ (wAt_lt hx i) (wAt_lt hy i), Nat.zero_testBit, and_bits]
      cases (wAt xs i).testBit k <;> cases (wAt ys i).testBit k <;> rfl
    rw [e1, e2, pop_zero] at e
    omega
  have z : ((List.range (max xs.length ys.length)).map fun _ => 0).sum = 0 := (sum_zero _ _).2 fun _ _ => rfl
  omega
theorem sum_at (f : Nat → Nat) (zs : List Nat) : (zs.map f).sum = ((List.range zs.length).map fun i => f (wAt zs i)).sum := by
  congr 1
  refine List.ext_getElem (by simp) fun i h1 h2 => ?_
  have hi : i < zs.length := by simpa using h1
  simp [wAt, List.getElem?_eq_getElem hi]
theorem sum_mono (n : Nat) (f g : Nat → Nat) (h : ∀ i, i < n → f i ≤ g i) : ((List.range n).map f).sum ≤ ((List.range n).map g).sum ∧ (((List.range n).map f).sum = ((List.range n).map g).sum → ∀ i, i < n → f i = g i) := by
  induction n with
  | zero => exact ⟨Nat.le_refl _, fun _ i hi => by omega⟩
  | succ n ih =>
    obtain ⟨i1, i2⟩ := ih fun i hi => h i (by omega)
    have hn := h n (by omega)
    simp only [List.range_succ, List.map_append, List.sum_append, List.map_cons, List.map_nil, List.sum_cons, List.sum_nil]
    refine ⟨by omega, fun e i hi => ?_⟩
    rcases (show i < n ∨ i = n by omega) with h' | rfl
    · exact i2 (by omega) i h'
    · omega
section
variable {what width : Int} {a b : List Nat} (ha : ∀ z ∈ a, z < 18446744073709551616) (hb : ∀ z ∈ b, z < 18446744073709551616)
include ha hb in
theorem rank_join (va : valueE what width a = true) (vb : valueE what width b = true) : rankE what width a ≤ rankE what width (joinE what a b) ∧ (rankE what width a = rankE what width (joinE what a b) ↔ a = joinE what a b) := by
  have la := value_len va
  have lb := value_len vb
  have hj := joinE_len what (a := a) (b := b) (by omega)
  rcases isL_what (value_is va) with rfl | rfl | rfl
  · have e : lenE (joinE 1 a b) = lenE a + lenE (bothE minN b a) := lenE_or_min a b ha hb
    show ((lenE a : Nat) : Int) ≤ (lenE (joinE 1 a b) : Nat) ∧ (((lenE a : Nat) : Int) = (lenE (joinE 1 a b) : Nat) ↔ _)
    refine ⟨by omega, fun h => ?_, fun h => by rw [← h]⟩
    have h0 : lenE (bothE minN b a) = 0 := by omega
    rw [within_iff b a hb ha] at h0
    refine ext_at (by omega) fun i _ => ?_
    rw [joinE_at]
    have h1 := (sub_iff _ _ (wAt_lt hb i) (wAt_lt ha i)).1 (h0 i)
    show _ = orN (wAt a i) (wAt b i)
    have := or_full h1
    unfold orN at this ⊢
    rw [Nat.or_comm, this]
  · have e : lenE a = lenE (joinE 2 a b) + lenE (bothE minN a b) := lenE_and_min a b ha hb
    show width - ((lenE a : Nat) : Int) ≤ width - (lenE (joinE 2 a b) : Nat) ∧ (width - ((lenE a : Nat) : Int) = width - (lenE (joinE 2 a b) : Nat) ↔ _)
    refine ⟨by omega, fun h => ?_, fun h => by rw [← h]⟩
    have h0 : lenE (bothE minN a b) = 0 := by omega
    rw [within_iff a b ha hb] at h0
    refine ext_at (by omega) fun i _ => ?_
    rw [joinE_at]
    have h1 := (sub_iff _ _ (wAt_lt ha i) (wAt_lt hb i)).1 (h0 i)
    show _ = andN (wAt a i) (wAt b i)
    have := and_full h1
    unfold andN at this ⊢
    rw [Nat.and_comm, this]
  · have hp : ∀ i, crankN (wAt a i) ≤ crankN (wordE 3 (wAt a i) (wAt b i)) ∧ (crankN (wAt a i) = crankN (wordE 3 (wAt a i) (wAt b i)) → wAt a i = wordE 3 (wAt a i) (wAt b i)) := by
      intro i
      have w3 := word3 (wAt_lt ha i) (wAt_lt hb i)
      have s := value_sou va rfl i
      have sj := sou_join' (wAt a i) (wAt b i)
      unfold crankN
      rw [w3]
      have key : crank (wAt a i) ≤ crank (cjoin (wAt a i) (wAt b i)) ∧ (crank (wAt a i) = crank (cjoin (wAt a i) (wAt b i)) → (wAt a i : Int) = cjoin (wAt a i) (wAt b i)) := by
        unfold crank
        rw [sj, s]
        unfold cjoin
        rw [s]
        generalize sou (wAt b i : Int) = y
        generalize (wAt a i : Int) = x
        constructor
        · split <;> (try split) <;> (try split) <;> (try split) <;> omega
        · split <;> (try split) <;> (try split) <;> (try split) <;> omega
      have b1 := crank_bd (wAt a i)
      have b2 := crank_bd (cjoin (wAt a i) (wAt b i))
      refine ⟨by omega, fun h => ?_⟩
      have := key.2 (by omega)
      rw [← w3] at this
      exact Int.ofNat_inj.1 this
    have es : ((joinE 3 a b).map crankN).sum = ((List.range a.length).map fun i => crankN (wordE 3 (wAt a i) (wAt b i))).sum := by
      rw [sum_at, hj]
      congr 1
      exact List.map_congr_left fun i _ => by rw [joinE_at]
    obtain ⟨m1, m2⟩ := sum_mono a.length (fun i => crankN (wAt a i)) (fun i => crankN (wordE 3 (wAt a i) (wAt b i))) fun i _ => (hp i).1
    show (((a.map crankN).sum : Nat) : Int) ≤ (((joinE 3 a b).map crankN).sum : Nat) ∧ ((((a.map crankN).sum : Nat) : Int) = (((joinE 3 a b).map crankN).sum : Nat) ↔ _)
    rw [es, sum_at]
    refine ⟨by omega, fun h => ?_, fun h => ?_⟩
    · refine ext_at (by omega) fun i hi => ?_
      rw [joinE_at]
      exact (hp i).2 (m2 (by omega) i hi)
    · rw [← es, ← sum_at, ← h]
include ha in
theorem rank_height (va : valueE what width a = true) (hw : ¬ (200 < width ∧ width < 1024)) : rankE what width a ≤ heightE what width := by
  have hL := value_is va
  have hn := isL_near hL
  have la := value_len va
  unfold heightE
  rw [if_pos hL]
  rcases isL_what hL with rfl | rfl | rfl
  · have e := lenE_or_min a (fullE width) ha (fullE_lt width)
    have e2 : bothE orN a (fullE width) = fullE width := by
      have hl : a.length = sizeE width := by rw [la]; unfold wordsN; rw [if_pos hL, if_neg (by decide)]
      refine ext_at (by rw [bothE_len, fullE_len]; omega) fun i _ => ?_
      rw [bothE_at orN rfl]
      exact or_full fun k hk => fits_bits ha (value_fit va (by decide)) i k hk
    rw [e2] at e
    have hf := full_len width hw
    show ((lenE a : Nat) : Int) ≤ width
    omega
  · show width - ((lenE a : Nat) : Int) ≤ width
    omega
  · have hl : a.length = width.toNat := by rw [la]; unfold wordsN; rw [if_pos hL, if_pos rfl]
    have h0 : 0 ≤ width := by simp only [isL, decide_eq_true_eq] at hL; omega
    obtain ⟨m1, _⟩ := sum_mono a.length (fun i => crankN (wAt a i)) (fun _ => 2) fun i _ => by
      have := crank_bd (wAt a i)
      unfold crankN; omega
    have e2 : ((List.range a.length).map fun _ => 2).sum = 2 * a.length := by
      have : (List.range a.length).map (fun _ => 2) = List.replicate a.length 2 := by
        refine List.ext_getElem (by simp) fun i h1 h2 => by simp
      rw [this, List.sum_replicate_nat, Nat.mul_comm]
    show (((a.map crankN).sum : Nat) : Int) ≤ 2 * width
    rw [sum_at]
    omega
end

end Go.Proofs.Yteheckcflnogbaa

/-
  The document's own numbers (soughref01): contracts.
-/
namespace Go.Proofs.Yteheckcflnogbaa
open Go.RowKit

theorem rwrap_any (n : Int) (w : World) :
    Calls Try.prog 189 #[.int .i64 n] w fun e w' => e = .returned (.int .i64 (wr n)) ∧ w = w' := by
  go_enter Try.func189, Try.ntmps189
  go_wp2
  go_ret
  exact ⟨ret_int (rwrap_eq n), rfl⟩

theorem rof_any (a b : Int) (w : World) :
    Calls Try.prog 181 #[.int .i64 a, .int .i64 b] w fun e w' => e = .returned (.agg #[.int .i64 (wr a), .int .i64 (wr b)]) ∧ Below w.heap.size w w' := by
  go_enter Try.func181, Try.ntmps181
  go_wp2_with (go_at_call 189; refine (rwrap_any _ _).mono ?_; rintro e w' ⟨rfl, rfl⟩)
  exact bodyPost_ret (v := .agg #[.int .i64 (wr a), .int .i64 (wr b)]) (by simp [results, Try.results181, go_sem]) rfl ⟨rfl, (Below.refl _ _).alloc (Nat.le_refl _) _⟩

end Go.Proofs.Yteheckcflnogbaa

/-
  The document's own answers for layer 11 (soughref11): Num, Norm, Join, Rank, Of: contracts.
-/
namespace Go.Proofs.Yteheckcflnogbaa
open Go.RowKit

theorem rnum_any (x : Int) (w : World) (h0 : 0 ≤ x ∧ x ≤ 18446744073709551615) :
    Calls Try.prog 161 #[.int .u64 x] w fun e w' => e = .returned (.tuple #[.agg #[.int .i64 (numv x).1, .int .i64 (numv x).2], .bool (isn x)]) ∧ Below w.heap.size w w' := by
  by_cases h1 : x % 4 = 2
  · by_cases h2 : x / 4 < 4294967296
    · have hi : isn x = true := by simp [isn, h1, h2]
      have hn : numv x = (wr (x / 4), wr (x / 4 / 65536)) := by simp [numv, hi]
      rw [hi, hn]
      clear hi hn
      have hm : (x % 4 != 2) = false := by simp [h1]
      have hd : decide (4294967296 ≤ x / 4) = false := by simp; omega
      have H1 := Lib.hid h1
      have h3 : 0 ≤ x / 4 := by omega
      clear h1
      go_enter Try.func161, Try.ntmps161
      go_wp2_with fail
      refine (rof_any _ _ _).mono ?_
      rintro e w1 ⟨rfl, hB⟩
      have e1 : wr (x / 4 % 65536) = wr (x / 4) := by unfold wr; omega
      rw [e1]
      obtain ⟨k0, k1, f0, f1⟩ := pair_behind hB
      have HB := Lib.hid hB
      clear hB hm h2 hd e1
      go_wp2_with fail
      exact bodyPost_ret (v := .tuple #[.agg #[.int .i64 (wr (x / 4)), .int .i64 (wr (x / 4 / 65536))], .bool true]) (by simp [results, Try.results161, go_sem, k0, k1]) rfl ⟨rfl, pair_end HB.out _ _⟩
    · have hi : isn x = false := by simp [isn, h1]; omega
      have hn : numv x = (0, 0) := by simp [numv, hi]
      rw [hi, hn]
      clear hi hn
      have hm : (x % 4 != 2) = false := by simp [h1]
      have hd : decide (4294967296 ≤ x / 4) = true := by simp; omega
      have H1 := Lib.hid h1
      clear h1
      go_enter Try.func161, Try.ntmps161
      go_wp2_with fail
      exact bodyPost_ret (v := .tuple #[.agg #[.int .i64 0, .int .i64 0], .bool false]) (by simp [results, Try.results161, go_sem]) rfl ⟨rfl, (Below.refl _ _).alloc (Nat.le_refl _) _⟩
  · have hi : isn x = false := by simp [isn, h1]
    have hn : numv x = (0, 0) := by simp [numv, hi]
    rw [hi, hn]
    clear hi hn
    have hm : (x % 4 != 2) = true := by simp [h1]
    have H1 := Lib.hid h1
    clear h1
    go_enter Try.func161, Try.ntmps161
    go_wp2_with fail
    exact bodyPost_ret (v := .tuple #[.agg #[.int .i64 0, .int .i64 0], .bool false]) (by simp [results, Try.results161, go_sem]) rfl ⟨rfl, (Below.refl _ _).alloc (Nat.le_refl _) _⟩

theorem norm_any (x : Int) (w : World) (h0 : 0 ≤ x ∧ x ≤ 18446744073709551615) :
    Calls Try.prog 104 #[.int .u64 x] w fun e w' => e = .returned (.int .u64 (sou x)) ∧ Below w.heap.size w w' := by
  by_cases hz : x = 0
  · subst hz
    go_enter Try.func104, Try.ntmps104
    go_wp2_with fail
    refine (rnum_any _ _ h0).mono ?_
    rintro e w1 ⟨rfl, hB⟩
    go_wp2_with fail
    go_ret
    exact ⟨ret_int (by decide), hB.alloc hB.size _⟩
  · have e0 : (x != 0) = true := by simpa using hz
    have hz' : sou x = if isn x = true then x else 1 := by
      unfold sou; rw [if_neg hz]
    have Hz := Lib.hid hz'
    clear hz hz'
    go_enter Try.func104, Try.ntmps104
    go_wp2_with fail
    refine (rnum_any _ _ h0).mono ?_
    rintro e w1 ⟨rfl, hB⟩
    cases hi : isn x
    · have Hi := Lib.hid hi
      clear hi
      go_wp2_with fail
      go_ret
      exact ⟨ret_int (by rw [Hz.out, Hi.out]; rfl), hB.alloc hB.size _⟩
    · have Hi := Lib.hid hi
      clear hi
      go_wp2_with fail
      go_ret
      exact ⟨ret_int (by rw [Hz.out, Hi.out]; rfl), hB.alloc hB.size _⟩

theorem rjoin_any (a b : Int) (w : World) (ha : 0 ≤ a ∧ a ≤ 18446744073709551615) (hb : 0 ≤ b ∧ b ≤ 18446744073709551615) :
    Calls Try.prog 110 #[.int .u64 a, .int .u64 b] w fun e w' => e = .returned (.int .u64 (cjoin a b)) ∧ Below w.heap.size w w' := by
  have hj : ∀ v, cjoin a b = v → Ending.returned (.int .u64 (cjoin a b)) = .returned (.int .u64 v) := fun v h => by rw [h]
  have Hj := Lib.hid hj
  clear hj
  go_enter Try.func110, Try.ntmps110
  go_wp2_with fail
  refine (norm_any _ _ ha).mono ?_
  rintro e w1 ⟨rfl, hB⟩
  go_wp2_with fail
  refine (norm_any _ _ hb).mono ?_
  rintro e w2 ⟨rfl, hB2⟩
  have HB := Lib.hid (bel_then hB hB2)
  clear hB hB2
  have hc : ∀ v, (if sou a = sou b ∨ sou b = 0 then sou a else if sou a = 0 then sou b else 1) = v → cjoin a b = v := fun v h => h
  have Hc := Lib.hid hc
  clear hc
  generalize sou a = x at *
  generalize sou b = y at *
  clear ha hb
  by_cases h1 : x = 0
  · subst h1
    by_cases h2 : y = 0
    · subst h2
      go_wp2_with fail
      go_ret
      exact ⟨(Hj.out _ (Hc.out _ (by simp))).symm, HB.out⟩
    · have H2 := Lib.hid h2
      clear h2
      go_wp2_with fail
      go_ret
      exact ⟨(Hj.out _ (Hc.out _ (by simp [H2.out, Ne.symm H2.out]))).symm, HB.out⟩
  · have e1 : (x == 0) = false := by simpa using h1
    by_cases h2 : x = y
    · subst h2
      go_wp2_with fail
      go_ret
      exact ⟨(Hj.out _ (Hc.out _ (by simp))).symm, HB.out⟩
    · have e2 : (x == y) = false := by simpa using h2
      by_cases h3 : y = 0
      · subst h3
        have H1 := Lib.hid h1
        clear h1 h2
        go_wp2_with fail
        go_ret
        exact ⟨(Hj.out _ (Hc.out _ (by simp))).symm, HB.out⟩
      · have e3 : (y == 0) = false := by simpa using h3
        have H2 := Lib.hid h2
        have H1 := Lib.hid h1
        have H3 := Lib.hid h3
        clear h1 h2 h3
        go_wp2_with fail
        go_ret
        exact ⟨(Hj.out _ (Hc.out _ (by simp [H1.out, H2.out, H3.out]))).symm, HB.out⟩

theorem rrank_any (a : Int) (w : World) (ha : 0 ≤ a ∧ a ≤ 18446744073709551615) :
    Calls Try.prog 111 #[.int .u64 a] w fun e w' => e = .returned (.int .i64 (crank a)) ∧ Below w.heap.size w w' := by
  have hj : ∀ v, (if sou a = 0 then 0 else if sou a = 1 then 2 else 1) = v → Ending.returned (.int .i64 (crank a)) = .returned (.int .i64 v) := fun v h => ret_int h
  have Hj := Lib.hid hj
  clear hj
  have hs := (sou_bd a ha).1
  go_enter Try.func111, Try.ntmps111
  go_wp2_with fail
  refine (norm_any _ _ ha).mono ?_
  rintro e w1 ⟨rfl, hB⟩
  have HB := Lib.hid hB
  clear hB ha
  generalize sou a = x at *
  rcases (show x = 0 ∨ x = 1 ∨ 1 < x from by omega) with rfl | rfl | h1
  · go_wp2_with fail
    go_ret
    exact ⟨(Hj.out _ (by simp)).symm, HB.out⟩
  · go_wp2_with fail
    go_ret
    exact ⟨(Hj.out _ (by simp)).symm, HB.out⟩
  · go_wp2_with fail
    go_ret
    exact ⟨(Hj.out _ (by rw [if_neg (by omega), if_neg (by omega)])).symm, HB.out⟩

end Go.Proofs.Yteheckcflnogbaa

/-
  lattice.is, Words, Height, Word; soughref12's: contracts.
-/
namespace Go.Proofs.Yteheckcflnogbaa
open Go.RowKit

theorem isL_yes {what width : Int} (h : what = 1 ∨ what = 2 ∨ what = 3) (k : 0 ≤ width ∧ width ≤ 1024) : isL what width = true := by
  unfold isL; rw [decide_eq_true_eq]; omega
theorem isL_no {what width : Int} (h : ¬ ((what = 1 ∨ what = 2 ∨ what = 3) ∧ 0 ≤ width ∧ width ≤ 1024)) : isL what width = false := by
  unfold isL; rw [decide_eq_false_iff_not]; omega
theorem isL_kinds (what width : Int) : isL what width = if what = 1 ∨ what = 2 ∨ what = 3 then (decide (0 ≤ width) && decide (width ≤ 1024)) else false := by
  split
  · next h =>
    by_cases k : 0 ≤ width ∧ width ≤ 1024
    · rw [isL_yes h k, decide_eq_true k.1, decide_eq_true k.2]; rfl
    · rw [isL_no (by omega)]
      symm
      simp only [Bool.and_eq_false_iff, decide_eq_false_iff_not]
      omega
  · exact isL_no (by omega)

set_option maxHeartbeats 1600000 in
set_option maxRecDepth 100000 in
theorem lis_any (what width : Int) (w : World) :
    Calls Try.prog 94 #[.int .i64 what, .int .i64 width] w fun e w' => e = .returned (.bool (isL what width)) ∧ w' = w := by
  have HK := Lib.hid (isL_kinds what width)
  rcases (show what = 1 ∨ what = 2 ∨ what = 3 ∨ (what ≠ 1 ∧ what ≠ 2 ∧ what ≠ 3) by omega) with h | h | h | ⟨h1, h2, h3⟩
  · rw [HK.out, if_pos (by omega)]
    subst h
    clear HK
    by_cases h0 : 0 ≤ width
    · go_enter Try.func94, Try.ntmps94
      go_wp2
      go_ret
      exact ⟨ret_bool (by simp [h0]), rfl⟩
    · go_enter Try.func94, Try.ntmps94
      go_wp2
      go_ret
      exact ⟨ret_bool (by simp; omega), rfl⟩
  · rw [HK.out, if_pos (by omega)]
    subst h
    clear HK
    by_cases h0 : 0 ≤ width
    · go_enter Try.func94, Try.ntmps94
      go_wp2
      go_ret
      exact ⟨ret_bool (by simp [h0]), rfl⟩
    · go_enter Try.func94, Try.ntmps94
      go_wp2
      go_ret
      exact ⟨ret_bool (by simp; omega), rfl⟩
  · rw [HK.out, if_pos (by omega)]
    subst h
    clear HK
    by_cases h0 : 0 ≤ width
    · go_enter Try.func94, Try.ntmps94
      go_wp2
      go_ret
      exact ⟨ret_bool (by simp [h0]), rfl⟩
    · go_enter Try.func94, Try.ntmps94
      go_wp2
      go_ret
      exact ⟨ret_bool (by simp; omega), rfl⟩
  · rw [HK.out, if_neg (by omega)]
    have e1 : (what == 1) = false := by simpa using h1
    have e2 : (what == 2) = false := by simpa using h2
    have e3 : (what == 3) = false := by simpa using h3
    clear h1 h2 h3 HK
    go_enter Try.func94, Try.ntmps94
    go_wp2
    go_ret
    exact ⟨rfl, rfl⟩

set_option maxHeartbeats 1600000 in
set_option maxRecDepth 100000 in
theorem rlis_any (what width : Int) (w : World) :
    Calls Try.prog 32 #[.int .i64 what, .int .i64 width] w fun e w' => e = .returned (.bool (isL what width)) ∧ w' = w := by
  have hE : isL what width = (decide (1 ≤ what) && (decide (what ≤ 3) && (decide (0 ≤ width) && decide (width ≤ 1024)))) := by
    unfold isL; rw [Bool.eq_iff_iff]; simp [decide_eq_true_eq]
  rw [hE]
  clear hE
  by_cases h1 : 1 ≤ what
  · by_cases h2 : what ≤ 3
    · by_cases h3 : 0 ≤ width
      · go_enter Try.func32, Try.ntmps32
        go_wp2
        go_ret
        exact ⟨ret_bool (by simp [h1, h2, h3]), rfl⟩
      · go_enter Try.func32, Try.ntmps32
        go_wp2
        go_ret
        exact ⟨ret_bool (by simp; omega), rfl⟩
    · go_enter Try.func32, Try.ntmps32
      go_wp2
      go_ret
      exact ⟨ret_bool (by simp; omega), rfl⟩
  · go_enter Try.func32, Try.ntmps32
    go_wp2
    go_ret
    exact ⟨ret_bool (by simp; omega), rfl⟩

theorem wordsN_flat {width : Int} (h : isL 3 width = true) : width = (wordsN 3 width : Int) := by
  unfold wordsN; rw [if_pos h, if_pos rfl]
  simp only [isL, decide_eq_true_eq] at h; omega
theorem wordsN_set {what width : Int} (h : isL what width = true) (e : what ≠ 3) : (near width + 63) / 64 = (wordsN what width : Int) := by
  unfold wordsN; rw [if_pos h, if_neg e]; exact sizeE_int width
theorem wordsN_none {what width : Int} (h : isL what width = false) : wordsN what width = 0 := by unfold wordsN; rw [h]; rfl

set_option maxHeartbeats 1600000 in
set_option maxRecDepth 100000 in
theorem lwords_any (what width : Int) (w : World) :
    Calls Try.prog 17 #[.int .i64 what, .int .i64 width] w fun e w' => e = .returned (.int .i64 (wordsN what width : Nat)) ∧ w' = w := by
  go_enter Try.func17, Try.ntmps17
  go_wp2_with fail
  refine (lis_any _ _ _).mono ?_
  rintro e w1 ⟨rfl, hww⟩
  subst w1
  cases hL : isL what width with
  | false =>
    have H := Lib.hid (wordsN_none hL)
    clear hL
    go_wp2_with fail
    go_ret
    exact ⟨ret_int (by rw [H.out]; rfl), rfl⟩
  | true =>
    by_cases h3 : what = 3
    · subst h3
      have H := Lib.hid (wordsN_flat hL)
      clear hL
      go_wp2_with fail
      go_ret
      exact ⟨ret_int H.out, rfl⟩
    · have H := Lib.hid (wordsN_set hL h3)
      have e3 : (what == 3) = false := by simpa using h3
      clear hL h3
      go_wp2_with fail
      refine (size_any _ _).mono ?_
      rintro e w1 ⟨rfl, hww⟩
      subst w1
      go_wp2_with fail
      go_ret
      exact ⟨ret_int H.out, rfl⟩

set_option maxHeartbeats 1600000 in
set_option maxRecDepth 100000 in
theorem rlwords_any (what width : Int) (w : World) :
    Calls Try.prog 18 #[.int .i64 what, .int .i64 width] w fun e w' => e = .returned (.int .i64 (wordsN what width : Nat)) ∧ w' = w := by
  go_enter Try.func18, Try.ntmps18
  go_wp2_with fail
  refine (rlis_any _ _ _).mono ?_
  rintro e w1 ⟨rfl, hww⟩
  subst w1
  cases hL : isL what width with
  | false =>
    have H := Lib.hid (wordsN_none hL)
    clear hL
    go_wp2_with fail
    go_ret
    exact ⟨ret_int (by rw [H.out]; rfl), rfl⟩
  | true =>
    by_cases h3 : what = 3
    · subst h3
      have H := Lib.hid (wordsN_flat hL)
      clear hL
      go_wp2_with fail
      go_ret
      exact ⟨ret_int H.out, rfl⟩
    · have H := Lib.hid (wordsN_set hL h3)
      have e3 : (what == 3) = false := by simpa using h3
      clear hL h3
      go_wp2_with fail
      refine (rsize_any _ _).mono ?_
      rintro e w1 ⟨rfl, hww⟩
      subst w1
      go_wp2_with fail
      go_ret
      exact ⟨ret_int H.out, rfl⟩

theorem height_none {what width : Int} (h : isL what width = false) : heightE what width = 0 := by unfold heightE; rw [h]; rfl
theorem height_flat {width : Int} (h : isL 3 width = true) : heightE 3 width = 2 * width ∧ 0 ≤ width ∧ width ≤ 1024 := by
  refine ⟨by unfold heightE; rw [if_pos h, if_pos rfl], ?_⟩
  simp only [isL, decide_eq_true_eq] at h; omega
theorem height_set {what width : Int} (h : isL what width = true) (e : what ≠ 3) : heightE what width = width ∧ (what = 1 ∨ what = 2) ∧ 0 ≤ width ∧ width ≤ 1024 := by
  refine ⟨by unfold heightE; rw [if_pos h, if_neg e], ?_⟩
  simp only [isL, decide_eq_true_eq] at h; omega

set_option maxHeartbeats 1600000 in
set_option maxRecDepth 100000 in
theorem lheight_any (what width : Int) (w : World) :
    Calls Try.prog 26 #[.int .i64 what, .int .i64 width] w fun e w' => e = .returned (.int .i64 (heightE what width)) ∧ w' = w := by
  go_enter Try.func26, Try.ntmps26
  go_wp2_with fail
  refine (lis_any _ _ _).mono ?_
  rintro e w1 ⟨rfl, hww⟩
  subst w1
  cases hL : isL what width with
  | false =>
    have H := Lib.hid (height_none hL)
    clear hL
    go_wp2_with fail
    go_ret
    exact ⟨ret_int H.out.symm, rfl⟩
  | true =>
    by_cases h3 : what = 3
    · subst h3
      obtain ⟨h, h0, h1⟩ := height_flat hL
      have H := Lib.hid h
      clear hL h
      go_wp2_with fail
      go_ret
      exact ⟨ret_int (by rw [H.out]; omega), rfl⟩
    · obtain ⟨h, hk, h0, h1⟩ := height_set hL h3
      have H := Lib.hid h
      clear hL h h3
      rcases hk with rfl | rfl
      · go_wp2_with fail
        go_ret
        exact ⟨ret_int (by rw [H.out]), rfl⟩
      · go_wp2_with fail
        go_ret
        exact ⟨ret_int (by rw [H.out]), rfl⟩

set_option maxHeartbeats 1600000 in
set_option maxRecDepth 100000 in
theorem rlheight_any (what width : Int) (w : World) :
    Calls Try.prog 27 #[.int .i64 what, .int .i64 width] w fun e w' => e = .returned (.int .i64 (heightE what width)) ∧ w' = w := by
  go_enter Try.func27, Try.ntmps27
  go_wp2_with fail
  refine (rlis_any _ _ _).mono ?_
  rintro e w1 ⟨rfl, hww⟩
  subst w1
  cases hL : isL what width with
  | false =>
    have H := Lib.hid (height_none hL)
    clear hL
    go_wp2_with fail
    go_ret
    exact ⟨ret_int H.out.symm, rfl⟩
  | true =>
    by_cases h3 : what = 3
    · subst h3
      obtain ⟨h, h0, h1⟩ := height_flat hL
      have H := Lib.hid h
      clear hL h
      go_wp2_with fail
      go_ret
      exact ⟨ret_int (by rw [H.out]), rfl⟩
    · obtain ⟨h, hk, h0, h1⟩ := height_set hL h3
      have H := Lib.hid h
      have e3 : (what == 3) = false := by simpa using h3
      clear hL h h3 hk
      go_wp2_with fail
      go_ret
      exact ⟨ret_int (by rw [H.out]), rfl⟩

theorem band' (a b : Nat) (ha : a < 18446744073709551616) (hb : b < 18446744073709551616) : bits .and .u64 (a : Int) (b : Int) = ((a &&& b : Nat) : Int) :=
  (bits_nat .u64 64 (by decide) wraps_u64 a b (by omega) (by omega)).1

set_option maxHeartbeats 1600000 in
set_option maxRecDepth 100000 in
theorem lword_any (what : Int) (x y : Nat) (w : World) (hx : x < 18446744073709551616) (hy : y < 18446744073709551616) :
    Calls Try.prog 30 #[.int .i64 what, .int .u64 (x : Nat), .int .u64 (y : Nat)] w fun e w' => e = .returned (.int .u64 (wordE what x y : Nat)) ∧ Below w.heap.size w w' := by
  have B0 := Lib.hid (Below.refl w.heap.size w)
  rcases (show what = 1 ∨ what = 2 ∨ what = 3 ∨ (what ≠ 1 ∧ what ≠ 2 ∧ what ≠ 3) by omega) with h | h | h | ⟨h1, h2, h3⟩
  · subst h
    have hop : bits .or .u64 (x : Int) (y : Int) = ((wordE 1 x y : Nat) : Int) := bor x y hx hy
    go_enter Try.func30, Try.ntmps30
    go_wp2
    go_ret
    exact ⟨rfl, B0.out⟩
  · subst h
    have hop : bits .and .u64 (x : Int) (y : Int) = ((wordE 2 x y : Nat) : Int) := band' x y hx hy
    go_enter Try.func30, Try.ntmps30
    go_wp2
    go_ret
    exact ⟨rfl, B0.out⟩
  · subst h
    have H3 := Lib.hid (word3 hx hy)
    go_enter Try.func30, Try.ntmps30
    go_wp2_with fail
    refine (join_any _ _ _ (by omega) (by omega)).mono ?_
    rintro e w1 ⟨rfl, hB⟩
    rw [← H3.out]
    have HB := Lib.hid hB
    clear hB
    go_wp2_with fail
    go_ret
    exact ⟨rfl, HB.out⟩
  · have H := Lib.hid (show wordE what x y = 0 by unfold wordE; rw [if_neg h1, if_neg h2, if_neg h3])
    have e1 : (what == 1) = false := by simpa using h1
    have e2 : (what == 2) = false := by simpa using h2
    have e3 : (what == 3) = false := by simpa using h3
    clear h1 h2 h3
    go_enter Try.func30, Try.ntmps30
    go_wp2
    go_ret
    exact ⟨by rw [H.out]; rfl, B0.out⟩

set_option maxHeartbeats 1600000 in
set_option maxRecDepth 100000 in
theorem rlword_any (what : Int) (x y : Nat) (w : World) (hx : x < 18446744073709551616) (hy : y < 18446744073709551616) :
    Calls Try.prog 31 #[.int .i64 what, .int .u64 (x : Nat), .int .u64 (y : Nat)] w fun e w' => e = .returned (.int .u64 (wordE what x y : Nat)) ∧ Below w.heap.size w w' := by
  have B0 := Lib.hid (Below.refl w.heap.size w)
  rcases (show what = 1 ∨ what = 2 ∨ what = 3 ∨ (what ≠ 1 ∧ what ≠ 2 ∧ what ≠ 3) by omega) with h | h | h | ⟨h1, h2, h3⟩
  · subst h
    have hop : bits .or .u64 (x : Int) (y : Int) = ((wordE 1 x y : Nat) : Int) := bor x y hx hy
    go_enter Try.func31, Try.ntmps31
    go_wp2
    go_ret
    exact ⟨rfl, B0.out⟩
  · subst h
    have hop : bits .and .u64 (x : Int) (y : Int) = ((wordE 2 x y : Nat) : Int) := band' x y hx hy
    go_enter Try.func31, Try.ntmps31
    go_wp2
    go_ret
    exact ⟨rfl, B0.out⟩
  · subst h
    have H3 := Lib.hid (word3 hx hy)
    go_enter Try.func31, Try.ntmps31
    go_wp2_with fail
    refine (rjoin_any _ _ _ (by omega) (by omega)).mono ?_
    rintro e w1 ⟨rfl, hB⟩
    rw [← H3.out]
    have HB := Lib.hid hB
    clear hB
    go_wp2_with fail
    go_ret
    exact ⟨rfl, HB.out⟩
  · have H := Lib.hid (show wordE what x y = 0 by unfold wordE; rw [if_neg h1, if_neg h2, if_neg h3])
    have e1 : (what == 1) = false := by simpa using h1
    have e2 : (what == 2) = false := by simpa using h2
    have e3 : (what == 3) = false := by simpa using h3
    clear h1 h2 h3
    go_enter Try.func31, Try.ntmps31
    go_wp2
    go_ret
    exact ⟨by rw [H.out]; rfl, B0.out⟩

end Go.Proofs.Yteheckcflnogbaa
