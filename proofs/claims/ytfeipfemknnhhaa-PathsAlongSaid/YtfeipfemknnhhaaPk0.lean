/-
  Contracts and lemmas, many texts in one.
-/
import Derived.Test.YtfeipfemknnhhaaRows
import Derived.WalkKit
import Derived.Lib.Hide
import Derived.BigQuiet
import Derived.Deep.QuietTactic
import Derived.Laws.BitsLemmas
import Derived.Laws.Bits64
import Derived.IntWalk
import Derived.Laws.OwnMore
import Derived.OneCell
import Derived.Deep.OwnRows
import Derived.Laws.BitsAllLaws
import Derived.Shelf.Abstract
import Derived.Lib.TrailingZeros
import Derived.Deep.RegionHeld3
import Derived.BigRegion
import Derived.WalkLawsBesides
import Derived.Deep.AppendLies
import Derived.Maps.AppendAt
import Derived.Laws.AppendOwn
import Derived.OwnWalk
import Derived.Deep.CutRange
import Derived.Deep.DeepCutAuto
import Derived.Outline
import Derived.Deep.RegionLaw
import Derived.Deep.Slices

namespace Go.Proofs.Ytfeipfemknnhhaa
open Go.RowKit

theorem ret_int {k : IntKind} {a b : Int} (h : a = b) : Ending.returned (.int k a) = .returned (.int k b) := by rw [h]
theorem ret_bool {a b : Bool} (h : a = b) : Ending.returned (.bool a) = .returned (.bool b) := by rw [h]

theorem ret_str {l m : List UInt8} (h : l = m) : Ending.returned (.string ⟨l.toArray⟩) = .returned (.string ⟨m.toArray⟩) := by rw [h]

/-- One text behind another one, closed to the walk. -/
def cat (x y : List UInt8) : List UInt8 := x ++ y
theorem cat_len (x y : List UInt8) : (cat x y).length = x.length + y.length := by simp [cat]
theorem cat_run {P : Program} (x y : List UInt8) (h : x.length + y.length ≤ 8388608) (w : World) :
    (Op.stringOp .add ⟨x.toArray⟩ ⟨y.toArray⟩).run P w = .ok (.string ⟨(cat x y).toArray⟩) w :=
  run_string_add_lists w x y (by omega) (by omega)

/-- A cell that there is lies below the heap's size. -/
theorem cell_lt {w : World} {a : Addr} {v : Value} (h : w.cell? a = some v) : a.block < w.heap.size := by
  by_cases hc : a.block < w.heap.size
  · exact hc
  · rw [World.cell?, Array.getElem?_eq_none (by omega)] at h
    simp at h

theorem bel_drewN {B : Nat} {a w : World} (h : Below B a w) (n : Nat) : Below B a (w.drewN n) := ⟨h.os, h.tape, h.output, h.size, h.block⟩
/-- One call behind another one. -/
theorem bel_then {w w1 w2 : World} (h : Below w.heap.size w w1) (k : Below w1.heap.size w1 w2) : Below w.heap.size w w2 := h.trans (k.mono h.size)

/-- What a cell held it holds behind a call that writes nothing that was there. -/
theorem keepc {w w1 : World} {a : Addr} {v : Value} (h : w.cell? a = some v) (k : Below w.heap.size w w1) : w1.cell? a = some v := (k.cell (cell_lt h)).trans h
theorem keepf {w w1 : World} {a : Addr} {v : Value} {b : Bool} (h : w.cell? a = some v) (hf : w.frozen? a = b) (k : Below w.heap.size w w1) : w1.frozen? a = b := (k.frozen (cell_lt h)).trans hf

/-- A store, and what is read behind it. -/
theorem set_same {W : World} {p : Addr} {u v : Value} (h : W.cell? p = some u) : (W.setCell p v).cell? p = some v :=
  World.cell?_setCell_same' _ _ _ (by rw [h]; rfl)
theorem set_other {W : World} {p q : Addr} {u v : Value} (h : W.cell? q = some u) (hn : p.block ≠ q.block ∨ p.off ≠ q.off) : (W.setCell p v).cell? q = some u := by
  have hne : p ≠ q := by rintro rfl; rcases hn with h | h <;> exact h rfl
  rw [World.cell?_setCell_other]
  · exact h
  · exact hne

/-- A block of two cells, which may be written. -/
def P2 (W : World) (B : Nat) (u v : Value) : Prop :=
  W.cell? ⟨B, 0, none⟩ = some u ∧ W.cell? ⟨B, 1, none⟩ = some v ∧ W.frozen? ⟨B, 0, none⟩ = false ∧ W.frozen? ⟨B, 1, none⟩ = false
theorem P2.keep {W W1 : World} {B : Nat} {u v : Value} (h : P2 W B u v) (k : Below W.heap.size W W1) : P2 W1 B u v :=
  ⟨keepc h.1 k, keepc h.2.1 k, keepf h.1 h.2.2.1 k, keepf h.2.1 h.2.2.2 k⟩
theorem P2.new (w : World) (u v : Value) (t : TypeId) : P2 (w.alloc (.cells #[u, v] t)) w.heap.size u v := ⟨by go_simp, by go_simp, by go_simp, by go_simp⟩
theorem P2.alloc {W : World} {B : Nat} {u v : Value} (h : P2 W B u v) (o : Obj) : P2 (W.alloc o) B u v := h.keep ((Below.refl _ _).alloc (Nat.le_refl _) _)
theorem P2.set {W : World} {B : Nat} {u v : Value} (h : P2 W B u v) (x y : Value) : P2 ((W.setCell ⟨B, 0, none⟩ x).setCell ⟨B, 1, none⟩ y) B x y :=
  ⟨set_other (set_same h.1) (by simp), set_same (set_other h.2.1 (by simp)), by simpa only [World.frozen?_setCell] using h.2.2.1, by simpa only [World.frozen?_setCell] using h.2.2.2⟩
theorem P2.other {W : World} {B C : Nat} {u v : Value} (h : P2 W B u v) (hn : C ≠ B) (x y : Value) : P2 ((W.setCell ⟨C, 0, none⟩ x).setCell ⟨C, 1, none⟩ y) B u v :=
  ⟨set_other (set_other h.1 (.inl hn)) (.inl hn), set_other (set_other h.2.1 (.inl hn)) (.inl hn), by simpa only [World.frozen?_setCell] using h.2.2.1, by simpa only [World.frozen?_setCell] using h.2.2.2⟩
/-- Two stores into a block that is the call's own. -/
theorem bel_set2 {w W : World} (h : Below w.heap.size w W) {B : Nat} (hB : w.heap.size ≤ B) (x y : Value) : Below w.heap.size w ((W.setCell ⟨B, 0, none⟩ x).setCell ⟨B, 1, none⟩ y) :=
  (h.setCell (p := ⟨B, 0, none⟩) hB _).setCell (p := ⟨B, 1, none⟩) hB _

/-- A block of two ints. -/
def Pr (W : World) (B : Nat) (x y : Int) : Prop := W.cell? ⟨B, 0, none⟩ = some (.int .i64 x) ∧ W.cell? ⟨B, 1, none⟩ = some (.int .i64 y)
theorem Pr.keep {W W1 : World} {B : Nat} {x y : Int} (h : Pr W B x y) (k : Below W.heap.size W W1) : Pr W1 B x y := ⟨keepc h.1 k, keepc h.2 k⟩
theorem Pr.new (w : World) (x y : Int) (t : TypeId) : Pr (w.alloc (.cells #[.int .i64 x, .int .i64 y] t)) w.heap.size x y := ⟨(P2.new _ _ _ _).1, (P2.new _ _ _ _).2.1⟩
/-- The pairs that a call has made, and that nothing else has turned. -/
def GS (w W : World) (L : List (Nat × Int × Int)) : Prop := (∀ p ∈ L, Pr W p.1 p.2.1 p.2.2) ∧ Below w.heap.size w W
theorem GS.start (w : World) : GS w w [] := ⟨by simp, Below.refl _ _⟩
theorem GS.keep {w W W1 : World} {L : List (Nat × Int × Int)} (h : GS w W L) (k : Below W.heap.size W W1) : GS w W1 L := ⟨fun p hp => (h.1 p hp).keep k, bel_then h.2 k⟩
theorem GS.alloc {w W : World} {L : List (Nat × Int × Int)} (h : GS w W L) (o : Obj) : GS w (W.alloc o) L := h.keep ((Below.refl _ _).alloc (Nat.le_refl _) _)
theorem GS.add {w W : World} {L : List (Nat × Int × Int)} (h : GS w W L) (x y : Int) (t : TypeId) : GS w (W.alloc (.cells #[.int .i64 x, .int .i64 y] t)) ((W.heap.size, x, y) :: L) := by
  refine ⟨fun p hp => ?_, (h.alloc _).2⟩
  rcases List.mem_cons.1 hp with rfl | hp
  · exact Pr.new _ _ _ _
  · exact (h.alloc _).1 p hp
theorem GS.at {w W : World} {L : List (Nat × Int × Int)} (h : GS w W L) (B : Nat) (x y : Int) (hp : (B, x, y) ∈ L) : Pr W B x y := h.1 _ hp

end Go.Proofs.Ytfeipfemknnhhaa

namespace Go.Proofs.Ytfeipfemknnhhaa
open Go.RowKit

/-- The width that counts. -/
def near (n : Int) : Int := min (max n 0) 1024
theorem near_bd (n : Int) : 0 ≤ near n ∧ near n ≤ 1024 := by unfold near; omega

theorem width_any (n : Int) (w : World) :
    Calls Try.prog 96 #[.int .i64 n] w fun e w' => e = .returned (.int .i64 (near n)) ∧ w' = w := by
  go_enter Try.func96, Try.ntmps96
  go_wp2
  all_goals
    go_ret
    refine ⟨ret_int ?_, rfl⟩
    unfold near
    omega

theorem nearest_any (n : Int) (w : World) :
    Calls Try.prog 108 #[.int .i64 n] w fun e w' => e = .returned (.int .i64 (near n)) ∧ w' = w := by
  go_enter Try.func108, Try.ntmps108
  go_wp2
  all_goals
    go_ret
    refine ⟨ret_int ?_, rfl⟩
    unfold near
    omega

theorem size_any (n : Int) (w : World) :
    Calls Try.prog 77 #[.int .i64 n] w fun e w' => e = .returned (.int .i64 ((near n + 63) / 64)) ∧ w' = w := by
  have hb := near_bd n
  go_enter Try.func77, Try.ntmps77
  go_wp2_with (go_at_call 108; refine (nearest_any _ _).mono ?_; rintro e w1 ⟨rfl, rfl⟩)
  go_ret
  refine ⟨ret_int ?_, rfl⟩
  omega

theorem rsize_any (n : Int) (w : World) :
    Calls Try.prog 78 #[.int .i64 n] w fun e w' => e = .returned (.int .i64 ((near n + 63) / 64)) ∧ w' = w := by
  have hb := near_bd n
  go_enter Try.func78, Try.ntmps78
  go_wp2_with (go_at_call 96; refine (width_any _ _).mono ?_; rintro e w1 ⟨rfl, rfl⟩)
  go_ret
  refine ⟨ret_int ?_, rfl⟩
  omega

end Go.Proofs.Ytfeipfemknnhhaa

namespace Go.Proofs.Ytfeipfemknnhhaa
open Go.RowKit

/-- A slice of words that may be read. -/
def Ws (w : World) (v : Value) (zs : List Nat) : Prop :=
  (∀ z ∈ zs, z < 18446744073709551616) ∧ ((v = .slice none 0 0 ∧ zs = []) ∨ ∃ (a : Addr) (cap : Nat), v = .slice (some a) zs.length cap ∧ ∀ i, i < zs.length → w.cell? (a.add i) = some (.int .u64 (zs[i]?.getD 0 : Nat)))
/-- Is a number in a set? -/
def hasE (zs : List Nat) (n : Int) : Bool := decide (0 ≤ n) && (decide (n / 64 < zs.length) && ((zs[(n / 64).toNat]?.getD 0)).testBit (n % 64).toNat)

theorem wraps_u64 (n : Int) (h0 : 0 ≤ n) (h1 : n < 2 ^ 64) : IntKind.u64.wrap n = n := by rw [IntKind.wrap_u64]; omega
theorem bit_one (z k : Nat) (hz : z < 18446744073709551616) : (bits .and .u64 ((z : Int) / 2 ^ k) 1 == 1) = z.testBit k := by
  have h1 : z / 2 ^ k < 18446744073709551616 := Nat.lt_of_le_of_lt (Nat.div_le_self _ _) hz
  have e : ((z : Int) / 2 ^ k) = ((z / 2 ^ k : Nat) : Int) := by
    rw [Int.natCast_ediv, Int.natCast_pow]; rfl
  have h := (bits_nat .u64 64 (by decide) wraps_u64 (z / 2 ^ k) 1 (by omega) (by decide)).1
  rw [e, show (1 : Int) = ((1 : Nat) : Int) from rfl, h, Nat.and_one_is_mod, Nat.testBit_eq_decide_div_mod_eq]
  clear e h h1
  generalize z / 2 ^ k = y
  rw [Bool.eq_iff_iff]
  simp only [beq_iff_eq, decide_eq_true_eq]
  omega


theorem rhas_any (n : Int) (v : Value) (zs : List Nat) (w : World) (hw : Ws w v zs) (h0 : -9223372036854775808 ≤ n ∧ n ≤ 9223372036854775807) :
    Calls Try.prog 97 #[v, .int .i64 n] w fun e w' => e = .returned (.bool (hasE zs n)) ∧ w' = w := by
  by_cases hn : 0 ≤ n
  · have e0 : decide (0 ≤ n) = true := by simpa using hn
    have e1 : n.tdiv 64 = n / 64 := Int.tdiv_eq_ediv_of_nonneg hn
    have e3 : n.tmod 64 = n % 64 := Int.tmod_eq_emod_of_nonneg hn
    obtain ⟨hz, hw⟩ := hw
    rcases hw with ⟨rfl, rfl⟩ | ⟨a, cap, rfl, hc⟩
    · have Hr := Lib.hid (show hasE [] n = false by simp [hasE])
      have e2 : decide (n / 64 < 0) = false := by simp; omega
      go_enter Try.func97, Try.ntmps97
      go_wp2
      go_ret
      exact ⟨ret_bool Hr.out.symm, rfl⟩
    · by_cases hi : n / 64 < zs.length
      · have e2 : decide (n / 64 < (zs.length : Int)) = true := by simpa using hi
        replace hc := hc (n / 64).toNat (by omega)
        have Hr := Lib.hid (show hasE zs n = ((zs[(n / 64).toNat]?.getD 0)).testBit (n % 64).toNat by unfold hasE; rw [e0, e2]; simp)
        have hz := Lib.hid (hz (zs[(n / 64).toNat]?.getD 0) (by rw [List.getElem?_eq_getElem (by omega)]; exact List.getElem_mem _))
        generalize (zs[(n / 64).toNat]?.getD 0) = z at *
        have i0 : (0 : Int) ≤ n / 64 := by omega
        have i1 : (0 : Int) ≤ n % 64 := by omega
        have i2 : n % 64 < 64 := by omega
        go_enter Try.func97, Try.ntmps97
        go_wp2
        go_ret
        refine ⟨ret_bool ?_, rfl⟩
        rw [Hr.out]
        exact bit_one _ _ hz.out
      · have Hr := Lib.hid (show hasE zs n = false by simp [hasE]; omega)
        have e2 : decide (n / 64 < (zs.length : Int)) = false := by simp; omega
        clear hi
        go_enter Try.func97, Try.ntmps97
        go_wp2
        go_ret
        exact ⟨ret_bool Hr.out.symm, rfl⟩
  · have Hr := Lib.hid (show hasE zs n = false by simp [hasE]; omega)
    have e0 : decide (0 ≤ n) = false := by simpa using hn
    clear hn
    go_enter Try.func97, Try.ntmps97
    go_wp2
    go_ret
    exact ⟨ret_bool Hr.out.symm, rfl⟩

theorem ws_len {w : World} {v : Value} {zs : List Nat} (h : Ws w v zs) : ∃ p cap, v = .slice p zs.length cap := by
  rcases h.2 with ⟨rfl, rfl⟩ | ⟨a, cap, rfl, _⟩
  · exact ⟨_, _, rfl⟩
  · exact ⟨_, _, rfl⟩
theorem Ws.below {w w' : World} {v : Value} {zs : List Nat} (h : Ws w v zs) (k : Below w.heap.size w w') : Ws w' v zs := by
  refine ⟨h.1, ?_⟩
  rcases h.2 with h | ⟨a, cap, rfl, hc⟩
  · exact .inl h
  · exact .inr ⟨a, cap, rfl, fun i hi => keepc (hc i hi) k⟩

end Go.Proofs.Ytfeipfemknnhhaa

namespace Go.Proofs.Ytfeipfemknnhhaa

theorem and_byte (a b c e : Nat) (hb : b < 256) (he : e < 256) : (256 * a + b) &&& (256 * c + e) = 256 * (a &&& c) + (b &&& e) := by
  have h1 : b &&& e < 2 ^ 8 := Nat.and_lt_two_pow _ (by omega)
  apply Nat.eq_of_testBit_eq
  intro i
  rw [Nat.testBit_and]
  have t (x y : Nat) (hy : y < 256) : (256 * x + y).testBit i = if i < 8 then y.testBit i else x.testBit (i - 8) := by
    have := Nat.testBit_two_pow_mul_add (i := 8) x (b := y) (by omega) i
    simpa using this
  rw [t a b hb, t c e he, t (a &&& c) (b &&& e) (by omega)]
  split
  · rw [Nat.testBit_and]
  · rw [Nat.testBit_and]

/-- k bytes, each c. -/
def rep (c : Nat) : Nat → Nat
  | 0 => 0
  | k + 1 => 256 * rep c k + c
theorem rep_succ (c k : Nat) : rep c (k + 1) = 256 * rep c k + c := rfl
def pA (k x : Nat) : Nat := (x / 2 &&& rep 85 k) + (x &&& rep 85 k)
def pB (k x : Nat) : Nat := (x / 4 &&& rep 51 k) + (x &&& rep 51 k)
def pC (k x : Nat) : Nat := (x / 16 + x) &&& rep 15 k
def qA (d : Nat) : Nat := (d / 2 &&& 85) + (d &&& 85)
def qB (d : Nat) : Nat := (d / 4 &&& 51) + (d &&& 51)
def qC (d : Nat) : Nat := (d / 16 + d) &&& 15

theorem a_low : ∀ d, d < 256 → ((128 + d / 2) &&& 85) = (d / 2 &&& 85) := by decide +kernel
theorem b_low : ∀ r, r < 4 → ∀ d, d < 256 → ((64 * r + d / 4) &&& 51) = (d / 4 &&& 51) := by decide +kernel
theorem c_low : ∀ r, r < 5 → ∀ d, d < 69 → ((16 * r + d / 16 + d) &&& 15) = ((d / 16 + d) &&& 15) := by decide +kernel
theorem ab_bd : ∀ d, d < 256 → qA d < 256 ∧ qB (qA d) < 69 ∧ qB (qA d) % 16 < 5 := by decide +kernel

theorem pA_step (k q d : Nat) (hd : d < 256) : pA (k + 1) (256 * q + d) = 256 * pA k q + qA d := by
  unfold pA qA
  rw [rep_succ]
  have e : (256 * q + d) / 2 = 256 * (q / 2) + (128 * (q % 2) + d / 2) := by omega
  rw [e, and_byte _ _ _ _ (by omega) (by decide), and_byte _ _ _ _ hd (by decide)]
  have : ((128 * (q % 2) + d / 2) &&& 85) = (d / 2 &&& 85) := by
    rcases (show q % 2 = 0 ∨ q % 2 = 1 by omega) with h | h
    · rw [h]; simp
    · rw [h]; exact a_low d hd
  rw [this]; omega
theorem pB_step (k q d : Nat) (hd : d < 256) : pB (k + 1) (256 * q + d) = 256 * pB k q + qB d := by
  unfold pB qB
  rw [rep_succ]
  have e : (256 * q + d) / 4 = 256 * (q / 4) + (64 * (q % 4) + d / 4) := by omega
  rw [e, and_byte _ _ _ _ (by omega) (by decide), and_byte _ _ _ _ hd (by decide), b_low (q % 4) (by omega) d hd]
  omega
theorem pC_step (k q d : Nat) (hd : d < 69) (hq : q % 16 < 5) : pC (k + 1) (256 * q + d) = 256 * pC k q + qC d := by
  unfold pC qC
  rw [rep_succ]
  have e : (256 * q + d) / 16 + (256 * q + d) = 256 * (q / 16 + q) + (16 * (q % 16) + d / 16 + d) := by omega
  rw [e, and_byte _ _ _ _ (by omega) (by decide), c_low (q % 16) hq d hd]
theorem ab_low (k x : Nat) : pB k (pA k x) % 16 < 5 := by
  cases k with
  | zero => simp [pA, pB, rep]
  | succ k =>
    have e : x = 256 * (x / 256) + x % 256 := by omega
    have h := ab_bd (x % 256) (by omega)
    rw [e, pA_step _ _ _ (by omega), pB_step _ _ _ h.1]
    omega
def pT (k x : Nat) : Nat := pC k (pB k (pA k x))
def qT (d : Nat) : Nat := qC (qB (qA d))
theorem pT_step (k q d : Nat) (hd : d < 256) : pT (k + 1) (256 * q + d) = 256 * pT k q + qT d := by
  have h := ab_bd d hd
  unfold pT qT
  rw [pA_step _ _ _ hd, pB_step _ _ _ h.1, pC_step _ _ _ h.2.1 (ab_low k q)]
theorem qT_bd : ∀ d, d < 256 → qT d ≤ 8 := by decide +kernel

/-- How many bits. -/
def pop : Nat → Nat → Nat
  | 0, _ => 0
  | k + 1, x => x % 2 + pop k (x / 2)
theorem pop_add (j k x : Nat) : pop (j + k) x = pop j x + pop k (x / 2 ^ j) := by
  induction j generalizing x with
  | zero => simp [pop]
  | succ j ih =>
    rw [show j + 1 + k = (j + k) + 1 by omega]
    simp only [pop]
    rw [ih, Nat.div_div_eq_div_mul, Nat.pow_succ, Nat.mul_comm 2]
    omega
theorem pop_byte : ∀ d, d < 256 → qT d = pop 8 d := by decide +kernel
theorem pop_mod (j x : Nat) : pop j (x % 2 ^ j) = pop j x := by
  induction j generalizing x with
  | zero => rfl
  | succ j ih =>
    simp only [pop]
    have e1 : x % 2 ^ (j + 1) % 2 = x % 2 := Nat.mod_mod_of_dvd _ ⟨2 ^ j, by rw [Nat.pow_succ, Nat.mul_comm]⟩
    have e2 : x % 2 ^ (j + 1) / 2 = x / 2 % 2 ^ j := by rw [Nat.pow_succ, Nat.mul_comm, Nat.mod_mul_right_div_self]
    rw [e1, e2, ih]
theorem ones8 (c0 c1 c2 c3 c4 c5 c6 c7 y : Nat) (h0 : c0 ≤ 8) (h1 : c1 ≤ 8) (h2 : c2 ≤ 8) (h3 : c3 ≤ 8) (h4 : c4 ≤ 8) (h5 : c5 ≤ 8) (h6 : c6 ≤ 8) (h7 : c7 ≤ 8)
    (hy : y = c0 + 256 * c1 + 65536 * c2 + 16777216 * c3 + 4294967296 * c4 + 1099511627776 * c5 + 281474976710656 * c6 + 72057594037927936 * c7) :
    y + y / 256 < 18446744073709551616 ∧ (y + y / 256) + (y + y / 256) / 65536 < 18446744073709551616 ∧
    ((y + y / 256) + (y + y / 256) / 65536) + ((y + y / 256) + (y + y / 256) / 65536) / 4294967296 < 18446744073709551616 ∧
    (((y + y / 256) + (y + y / 256) / 65536) + ((y + y / 256) + (y + y / 256) / 65536) / 4294967296) % 128 = c0 + c1 + c2 + c3 + c4 + c5 + c6 + c7 := by
  have d1 : y / 256 = c1 + 256 * c2 + 65536 * c3 + 16777216 * c4 + 4294967296 * c5 + 1099511627776 * c6 + 281474976710656 * c7 := by omega
  have e1 : y + y / 256 = (c0 + c1) + 256 * (c1 + c2) + 65536 * (c2 + c3) + 16777216 * (c3 + c4) + 4294967296 * (c4 + c5) + 1099511627776 * (c5 + c6) + 281474976710656 * (c6 + c7) + 72057594037927936 * c7 := by omega
  generalize y + y / 256 = y1 at *
  have d2 : y1 / 65536 = (c2 + c3) + 256 * (c3 + c4) + 65536 * (c4 + c5) + 16777216 * (c5 + c6) + 4294967296 * (c6 + c7) + 1099511627776 * c7 := by clear d1 hy; omega
  have e2 : y1 + y1 / 65536 = (c0 + c1 + c2 + c3) + 256 * (c1 + c2 + c3 + c4) + 65536 * (c2 + c3 + c4 + c5) + 16777216 * (c3 + c4 + c5 + c6) + 4294967296 * (c4 + c5 + c6 + c7) + 1099511627776 * (c5 + c6 + c7) + 281474976710656 * (c6 + c7) + 72057594037927936 * c7 := by clear d1 hy; omega
  have l1 : y1 < 18446744073709551616 := by clear d1 hy d2 e2; omega
  generalize y1 + y1 / 65536 = y2 at *
  clear d1 hy e1 d2
  have d3 : y2 / 4294967296 = (c4 + c5 + c6 + c7) + 256 * (c5 + c6 + c7) + 65536 * (c6 + c7) + 16777216 * c7 := by omega
  refine ⟨l1, by omega, by omega, ?_⟩
  rw [d3, e2]
  omega
/-- The sum of a number's bytes' counts. -/
theorem pT_ones (x : Nat) :
    let y := pT 8 x
    let y1 := y + y / 256
    let y2 := y1 + y1 / 65536
    let y3 := y2 + y2 / 4294967296
    y3 < 18446744073709551616 ∧ y1 < 18446744073709551616 ∧ y2 < 18446744073709551616 ∧ y3 % 128 = pop 64 x := by
  have s (k x : Nat) : pT (k + 1) x = 256 * pT k (x / 256) + qT (x % 256) := by
    rw [← pT_step _ _ _ (by omega)]; congr 1; omega
  have p (k x : Nat) : pop (8 + k) x = qT (x % 256) + pop k (x / 256) := by
    rw [pop_add, pop_byte _ (by omega), show (256 : Nat) = 2 ^ 8 from rfl, pop_mod]
  have hp : pop 64 x = _ := (p 56 x).trans (congrArg _ ((p 48 _).trans (congrArg _ ((p 40 _).trans (congrArg _ ((p 32 _).trans (congrArg _ ((p 24 _).trans (congrArg _ ((p 16 _).trans (congrArg _ ((p 8 _).trans (congrArg _ (p 0 _))))))))))))))
  rw [hp, show pop 0 (x / 256 / 256 / 256 / 256 / 256 / 256 / 256 / 256) = 0 from rfl]
  simp only [s, show pT 0 _ = 0 from by simp [pT, pC, rep]]
  have b (d : Nat) : qT (d % 256) ≤ 8 := qT_bd _ (by omega)
  have b0 := b x
  have b1 := b (x / 256)
  have b2 := b (x / 256 / 256)
  have b3 := b (x / 256 / 256 / 256)
  have b4 := b (x / 256 / 256 / 256 / 256)
  have b5 := b (x / 256 / 256 / 256 / 256 / 256)
  have b6 := b (x / 256 / 256 / 256 / 256 / 256 / 256)
  have b7 := b (x / 256 / 256 / 256 / 256 / 256 / 256 / 256)
  generalize qT (x % 256) = c0 at *
  generalize qT (x / 256 % 256) = c1 at *
  generalize qT (x / 256 / 256 % 256) = c2 at *
  generalize qT (x / 256 / 256 / 256 % 256) = c3 at *
  generalize qT (x / 256 / 256 / 256 / 256 % 256) = c4 at *
  generalize qT (x / 256 / 256 / 256 / 256 / 256 % 256) = c5 at *
  generalize qT (x / 256 / 256 / 256 / 256 / 256 / 256 % 256) = c6 at *
  generalize qT (x / 256 / 256 / 256 / 256 / 256 / 256 / 256 % 256) = c7 at *
  clear s p b hp
  have h := ones8 c0 c1 c2 c3 c4 c5 c6 c7 (256 * (256 * (256 * (256 * (256 * (256 * (256 * (256 * 0 + c7) + c6) + c5) + c4) + c3) + c2) + c1) + c0) b0 b1 b2 b3 b4 b5 b6 b7 (by omega)
  generalize 256 * (256 * (256 * (256 * (256 * (256 * (256 * (256 * 0 + c7) + c6) + c5) + c4) + c3) + c2) + c1) + c0 = y at *
  exact ⟨h.2.2.1, h.1, h.2.1, by rw [h.2.2.2]; omega⟩

end Go.Proofs.Ytfeipfemknnhhaa

namespace Go.Proofs.Ytfeipfemknnhhaa
open Go.RowKit

theorem band (a b : Nat) (ha : a < 18446744073709551616) (hb : b < 18446744073709551616) : bits .and .u64 (a : Int) (b : Int) = ((a &&& b : Nat) : Int) :=
  (bits_nat .u64 64 (by decide) wraps_u64 a b (by omega) (by omega)).1
theorem wn (a : Nat) (h : a < 18446744073709551616) : IntKind.u64.wrap (a : Int) = (a : Int) := wraps_u64 _ (by omega) (by omega)
theorem oA (x : Nat) (hx : x < 18446744073709551616) : IntKind.u64.wrap (bits .and .u64 ((x : Int) / 2) 6148914691236517205 + bits .and .u64 (x : Int) 6148914691236517205) = ((pA 8 x : Nat) : Int) ∧ pA 8 x < 18446744073709551616 := by
  have e1 := band (x / 2) 6148914691236517205 (by omega) (by omega)
  have e2 := band x 6148914691236517205 hx (by omega)
  have l1 : x / 2 &&& 6148914691236517205 ≤ 6148914691236517205 := Nat.and_le_right
  have l2 : x &&& 6148914691236517205 ≤ 6148914691236517205 := Nat.and_le_right
  have hp : pA 8 x = (x / 2 &&& 6148914691236517205) + (x &&& 6148914691236517205) := rfl
  refine ⟨?_, by omega⟩
  rw [hp, ← wn ((x / 2 &&& 6148914691236517205) + (x &&& 6148914691236517205)) (by omega), Int.natCast_add, ← e1, ← e2, Int.natCast_ediv]
  rfl
theorem oB (x : Nat) (hx : x < 18446744073709551616) : IntKind.u64.wrap (bits .and .u64 ((x : Int) / 4) 3689348814741910323 + bits .and .u64 (x : Int) 3689348814741910323) = ((pB 8 x : Nat) : Int) ∧ pB 8 x < 8000000000000000000 := by
  have e1 := band (x / 4) 3689348814741910323 (by omega) (by omega)
  have e2 := band x 3689348814741910323 hx (by omega)
  have l1 : x / 4 &&& 3689348814741910323 ≤ 3689348814741910323 := Nat.and_le_right
  have l2 : x &&& 3689348814741910323 ≤ 3689348814741910323 := Nat.and_le_right
  have hp : pB 8 x = (x / 4 &&& 3689348814741910323) + (x &&& 3689348814741910323) := rfl
  refine ⟨?_, by omega⟩
  rw [hp, ← wn ((x / 4 &&& 3689348814741910323) + (x &&& 3689348814741910323)) (by omega), Int.natCast_add, ← e1, ← e2, Int.natCast_ediv]
  rfl
theorem oC (x : Nat) (hx : x < 8000000000000000000) : bits .and .u64 (IntKind.u64.wrap ((x : Int) / 16 + (x : Int))) 1085102592571150095 = ((pC 8 x : Nat) : Int) := by
  have e1 := band (x / 16 + x) 1085102592571150095 (by omega) (by omega)
  have hp : pC 8 x = ((x / 16 + x) &&& 1085102592571150095) := rfl
  rw [hp, ← e1, ← wn (x / 16 + x) (by omega), Int.natCast_add, Int.natCast_ediv]
  rfl
theorem oS (x s : Nat) (h : x + x / s < 18446744073709551616) : IntKind.u64.wrap ((x : Int) + (x : Int) / (s : Int)) = ((x + x / s : Nat) : Int) := by
  rw [← wn (x + x / s) h, Int.natCast_add, Int.natCast_ediv]
theorem wraps_i64 (n : Int) (h0 : 0 ≤ n) (h1 : n < 2 ^ 63) : IntKind.i64.wrap n = n := by rw [IntKind.wrap_i64]; omega
theorem oM (x : Nat) (h : x < 9223372036854775808) : bits .and .i64 (wrap64 (x : Int)) 127 = ((x % 128 : Nat) : Int) := by
  rw [IntWalk.wrap64_in _ ⟨by omega, by omega⟩]
  have e := (bits_nat .i64 63 (by decide) wraps_i64 x 127 (by omega) (by decide)).1
  rw [show (127 : Nat) = 2 ^ 7 - 1 from rfl, Nat.and_two_pow_sub_one_eq_mod] at e
  exact e

theorem ones_any (x : Nat) (w : World) (hx : x < 18446744073709551616) :
    Calls Try.prog 150 #[.int .u64 (x : Int)] w fun e w' => e = .returned (.int .i64 (pop 64 x : Nat)) ∧ w' = w := by
  go_enter Try.func150, Try.ntmps150
  go_wp2
  go_ret
  refine ⟨ret_int ?_, rfl⟩
  have hA := oA x hx
  have hB := oB (pA 8 x) hA.2
  obtain ⟨l3, l1, l2, hp⟩ := pT_ones x
  rw [hA.1, hB.1, oC _ hB.2, ← hp]
  rw [show pC 8 (pB 8 (pA 8 x)) = pT 8 x from rfl]
  have hy : pT 8 x ≤ 1085102592571150095 := Nat.and_le_right
  clear hA hB hx
  generalize pT 8 x = y at *
  have s1 : IntKind.u64.wrap ((y : Int) + (y : Int) / 256) = _ := oS y 256 l1
  have s2 : IntKind.u64.wrap (((y + y / 256 : Nat) : Int) + ((y + y / 256 : Nat) : Int) / 65536) = _ := oS _ 65536 l2
  have s3 : IntKind.u64.wrap (((y + y / 256 + (y + y / 256) / 65536 : Nat) : Int) + ((y + y / 256 + (y + y / 256) / 65536 : Nat) : Int) / 4294967296) = _ := oS _ 4294967296 l3
  rw [s1, s2, s3]
  exact oM _ (by clear s1 s2 s3 hp; omega)

end Go.Proofs.Ytfeipfemknnhhaa

namespace Go.Proofs.Ytfeipfemknnhhaa
open Go.RowKit


/-- A slice of ints reads as a list. -/
def IntsAt (w : World) (v : Value) (zs : List Int) : Prop :=
  ∃ o c, v = .slice o zs.length c ∧ (0 < zs.length → ∃ b off, o = some ⟨b, off, none⟩ ∧ ∀ j, j < zs.length → w.cell? ⟨b, off + j, none⟩ = some (.int .i64 (zs[j]?.getD 0)))

theorem IntsAt.drewN {w : World} {v : Value} {zs : List Int} (h : IntsAt w v zs) (n : Nat) : IntsAt (w.drewN n) v zs := h

theorem IntsAt.of_owns {w : World} {base e : Nat} {v : Value} {n : Nat} {zs : List Int} (h : w.ownsRow base e 1 v n (zs.map (Value.int .i64))) : IntsAt w v zs := by
  obtain ⟨hl, h | ⟨g, cap, cur, rfl, hg, hb, hn, hm, hs, hc⟩⟩ := h
  · obtain ⟨rfl, rfl⟩ := h
    have : zs = [] := by simpa using hl
    subst this
    exact ⟨_, _, rfl, by simp⟩
  · have hzl : zs.length = n := by simpa using hl
    subst hzl
    refine ⟨_, _, rfl, fun _ => ⟨g, 0, rfl, fun j hj => ?_⟩⟩
    have hj' : (cur.toList.take (zs.length * 1))[j]? = some (.int .i64 (zs[j]?.getD 0)) := by
      rw [hc]; simp [hj]
    rw [List.getElem?_take] at hj'
    simp at hj'
    simp [World.cell?, hb, hj'.2]

theorem IntsAt.below {w w' : World} {v : Value} {zs : List Int} (h : IntsAt w v zs) (hB : Below w.heap.size w w') : IntsAt w' v zs := by
  obtain ⟨o, c, rfl, hc⟩ := h
  refine ⟨o, c, rfl, fun h0 => ?_⟩
  obtain ⟨b, f, rfl, hd⟩ := hc h0
  refine ⟨b, f, rfl, fun j hj => ?_⟩
  have hb := cell_lt (hd j hj)
  rw [hB.cell (by exact hb)]
  exact hd j hj

theorem ints_ne {xs ys : List Int} {k : Nat} (hl : xs.length = ys.length) (h : ¬ xs[k]?.getD 0 = ys[k]?.getD 0) : decide (xs = ys) = false := by
  simp; rintro rfl; exact h rfl
theorem ints_eq {xs ys : List Int} (hl : xs.length = ys.length) (h : ∀ j, j < xs.length → xs[j]?.getD 0 = ys[j]?.getD 0) : decide (xs = ys) = true := by
  simp
  refine List.ext_getElem hl fun j h1 h2 => ?_
  have := h j h1
  simpa [h1, h2] using this

set_option maxHeartbeats 1600000 in
set_option maxRecDepth 100000 in
theorem ints_any (v1 v2 : Value) (xs ys : List Int) (w : World) (h1 : IntsAt w v1 xs) (h2 : IntsAt w v2 ys) (hx : xs.length ≤ 9223372036854775807) (hy : ys.length ≤ 9223372036854775807) :
    Calls Try.prog 18 #[v1, v2] w fun e w' => e = .returned (.bool (decide (xs = ys))) ∧ ∃ n, w' = w.drewN n := by
  obtain ⟨o1, c1, rfl, hc1⟩ := h1
  obtain ⟨o2, c2, rfl, hc2⟩ := h2
  by_cases hl : xs.length = ys.length
  · have Hl := Lib.hid hl
    have hl1 : xs.length ≤ ys.length := by omega
    have hl2 : ys.length ≤ xs.length := by omega
    have hb : ((xs.length : Int) != (ys.length : Int)) = false := by simp [hl]
    clear hl
    have H1 := Lib.hid hc1
    have H2 := Lib.hid hc2
    clear hc1 hc2
    go_enter Try.func18, Try.ntmps18
    go_wp2
    go_loopw [13] (fun i wr => ∃ k nq : Nat, k ≤ xs.length ∧ i = .int .i64 k ∧ (∀ j, j < k → xs[j]?.getD 0 = ys[j]?.getD 0) ∧ wr = w.drewN nq)
      (fun i _ => xs.length - (intOf i).toNat)
    case atStart => exact ⟨0, 0, Nat.zero_le _, rfl, by simp, rfl⟩
    case round =>
      obtain ⟨k, nq, hk, rfl, hall, rfl⟩ := hrel
      have Hall := Lib.hid hall
      clear hall
      by_cases hlt : k < xs.length
      · obtain ⟨b1, f1, rfl, hc1⟩ := H1.out (by omega)
        obtain ⟨b2, f2, rfl, hc2⟩ := H2.out (by omega)
        have e1 : w.cell? ⟨b1, f1 + k, none⟩ = some (.int .i64 (xs[k]?.getD 0)) := hc1 k hlt
        have e2 : w.cell? ⟨b2, f2 + k, none⟩ = some (.int .i64 (ys[k]?.getD 0)) := hc2 k (by omega)
        clear hc1 hc2
        have hx1 : xs[k]?.getD 0 = xs[k] := by simp [hlt]
        go_wp2
        go_quiet (fail)
        go_wp2
        · have hne : (xs[k] != ys[k]?.getD 0) = true := by assumption
          go_ret
          exact ⟨ret_bool (ints_ne (k := k) Hl.out (by rw [hx1]; simpa using hne)).symm, _, World.drewN_drewN ..⟩
        · have heq : (xs[k] != ys[k]?.getD 0) = false := by assumption
          refine ⟨⟨k + 1, _, by omega, by go_num, fun j hj => ?_, rfl⟩, by simp [intOf]; omega⟩
          rcases (show j < k ∨ j = k from by omega) with h | rfl
          · exact Hall.out j h
          · rw [hx1]; simpa using heq
      · obtain rfl : k = xs.length := by omega
        go_wp2
        go_ret
        exact ⟨ret_bool (ints_eq Hl.out Hall.out).symm, nq, rfl⟩
  · have hb : ((xs.length : Int) != (ys.length : Int)) = true := by simp; omega
    go_enter Try.func18, Try.ntmps18
    clear hc1 hc2
    go_wp2
    go_ret
    exact ⟨ret_bool (decide_eq_false (by rintro rfl; exact hl rfl)).symm, 0, rfl⟩

end Go.Proofs.Ytfeipfemknnhhaa

namespace Go.Proofs.Ytfeipfemknnhhaa
open Go.RowKit

theorem ws_row {w : World} {v : Value} {zs : List Nat} (h : Ws w v zs) : ∃ p cap, v = .slice p zs.length cap ∧ (0 < zs.length → ∃ a, p = some a ∧ ∀ i, i < zs.length → w.cell? (a.add i) = some (.int .u64 (zs[i]?.getD 0 : Nat))) := by
  rcases h.2 with ⟨rfl, rfl⟩ | ⟨a, cap, rfl, hc⟩
  · exact ⟨_, _, rfl, by simp⟩
  · exact ⟨_, _, rfl, fun _ => ⟨a, rfl, hc⟩⟩
theorem same_ne {xs ys : List Nat} {k : Nat} (h : ¬ ((xs[k]?.getD 0 : Nat) : Int) = ((ys[k]?.getD 0 : Nat) : Int)) : decide (xs = ys) = false := by
  simp; rintro rfl; exact h rfl
theorem same_eq {xs ys : List Nat} (hl : xs.length = ys.length) (h : ∀ j, j < xs.length → xs[j]?.getD 0 = ys[j]?.getD 0) : decide (xs = ys) = true := by
  simp
  refine List.ext_getElem hl fun j h1 h2 => ?_
  have := h j h1
  simpa [h1, h2] using this

set_option maxHeartbeats 1600000 in
set_option maxRecDepth 100000 in
theorem same_any (v1 v2 : Value) (xs ys : List Nat) (w : World) (h1 : Ws w v1 xs) (h2 : Ws w v2 ys) (hx : xs.length ≤ 9223372036854775807) (hy : ys.length ≤ 9223372036854775807) :
    Calls Try.prog 15 #[v1, v2] w fun e w' => e = .returned (.bool (decide (xs = ys))) ∧ ∃ n, w' = w.drewN n := by
  obtain ⟨o1, c1, rfl, hc1⟩ := ws_row h1
  obtain ⟨o2, c2, rfl, hc2⟩ := ws_row h2
  clear h1 h2
  by_cases hl : xs.length = ys.length
  · have Hl := Lib.hid hl
    have hl1 : xs.length ≤ ys.length := by omega
    have hl2 : ys.length ≤ xs.length := by omega
    have hb : ((xs.length : Int) != (ys.length : Int)) = false := by simp [hl]
    clear hl
    have H1 := Lib.hid hc1
    have H2 := Lib.hid hc2
    clear hc1 hc2
    go_enter Try.func15, Try.ntmps15
    go_wp2
    go_loopw [13] (fun i wr => ∃ k nq : Nat, k ≤ xs.length ∧ i = .int .i64 k ∧ (∀ j, j < k → xs[j]?.getD 0 = ys[j]?.getD 0) ∧ wr = w.drewN nq)
      (fun i _ => xs.length - (intOf i).toNat)
    case atStart => exact ⟨0, 0, Nat.zero_le _, rfl, by simp, rfl⟩
    case round =>
      obtain ⟨k, nq, hk, rfl, hall, rfl⟩ := hrel
      have Hall := Lib.hid hall
      clear hall
      by_cases hlt : k < xs.length
      · obtain ⟨a, rfl, hc1⟩ := H1.out (by omega)
        obtain ⟨b, rfl, hc2⟩ := H2.out (by omega)
        replace hc1 := hc1 k hlt
        replace hc2 := hc2 k (by omega)
        have Hs := Lib.hid (fun (h : ¬ ((xs[k]?.getD 0 : Nat) : Int) = ((ys[k]?.getD 0 : Nat) : Int)) => same_ne h)
        have Ht := Lib.hid (show xs[k]?.getD 0 = ys[k]?.getD 0 → ∀ j, j < k + 1 → xs[j]?.getD 0 = ys[j]?.getD 0 from fun e j hj => by
          rcases (show j < k ∨ j = k from by omega) with h | rfl
          · exact Hall.out j h
          · exact e)
        generalize xs[k]?.getD 0 = x at *
        generalize ys[k]?.getD 0 = y at *
        go_wp2
        go_quiet (fail)
        go_wp2
        · go_ret
          exact ⟨ret_bool (Hs.out (by have : ((x : Int) != (y : Int)) = true := by assumption
                                      simpa using this)).symm, _, World.drewN_drewN ..⟩
        · refine ⟨⟨k + 1, _, by omega, by go_num, Ht.out (by have : ((x : Int) != (y : Int)) = false := by assumption
                                                             simp at this; omega), rfl⟩, by simp [intOf]; omega⟩
      · obtain rfl : k = xs.length := by omega
        go_wp2
        go_ret
        exact ⟨ret_bool (same_eq Hl.out Hall.out).symm, nq, rfl⟩
  · have hb : ((xs.length : Int) != (ys.length : Int)) = true := by simp; omega
    clear hc1 hc2
    go_enter Try.func15, Try.ntmps15
    go_wp2
    go_ret
    exact ⟨ret_bool (decide_eq_false (by rintro rfl; exact hl rfl)).symm, 0, rfl⟩

end Go.Proofs.Ytfeipfemknnhhaa

namespace Go.Proofs.Ytfeipfemknnhhaa
open Go.RowKit

theorem pop_le (j x : Nat) : pop j x ≤ j := by
  induction j generalizing x with
  | zero => exact Nat.le_refl _
  | succ j ih => have := ih (x / 2); simp only [pop]; omega
/-- How many numbers a set's words have. -/
def lenE (zs : List Nat) : Nat := (zs.map (pop 64)).sum
theorem lenE_le (zs : List Nat) : lenE zs ≤ 64 * zs.length := by
  induction zs with
  | nil => exact Nat.le_refl _
  | cons z zs ih => have := pop_le 64 z; simp only [lenE, List.map_cons, List.sum_cons, List.length_cons] at ih ⊢; omega
theorem lenE_take (zs : List Nat) (k : Nat) (h : k < zs.length) : lenE (zs.take (k + 1)) = lenE (zs.take k) + pop 64 (zs[k]?.getD 0) := by
  rw [List.take_add_one, List.getElem?_eq_getElem h]
  unfold lenE
  rw [List.map_append, List.sum_append]
  simp

set_option maxHeartbeats 1600000 in
set_option maxRecDepth 100000 in
theorem len_any (v : Value) (zs : List Nat) (w : World) (hw : Ws w v zs) (hx : zs.length ≤ 1000000) :
    Calls Try.prog 132 #[v] w fun e w' => e = .returned (.int .i64 (lenE zs : Nat)) ∧ w' = w := by
  have hz := hw.1
  obtain ⟨p, c, rfl, hc⟩ := ws_row hw
  have HZ := Lib.hid hz
  have H1 := Lib.hid hc
  clear hz hc hw
  go_enter Try.func132, Try.ntmps132
  go_wp2
  go_loopw [3, 8] (fun s i wr => ∃ k : Nat, k ≤ zs.length ∧ i = .int .i64 k ∧ s = .int .i64 (lenE (zs.take k) : Nat) ∧ wr = w)
    (fun _ i _ => zs.length - (intOf i).toNat)
  case atStart => exact ⟨0, Nat.zero_le _, rfl, by simp [lenE], rfl⟩
  case round =>
    obtain ⟨k, hk, rfl, rfl, rfl⟩ := hrel
    by_cases hlt : k < zs.length
    · obtain ⟨a, rfl, hc⟩ := H1.out (by omega)
      replace hc := hc k hlt
      have ht := Lib.hid (lenE_take zs k hlt)
      have hb := Lib.hid (lenE_le (zs.take k))
      have hl := Lib.hid (show (zs.take k).length = k by simp; omega)
      have hzk := Lib.hid (HZ.out (zs[k]?.getD 0) (by rw [List.getElem?_eq_getElem hlt]; exact List.getElem_mem _))
      have hp := Lib.hid (pop_le 64 (zs[k]?.getD 0))
      generalize zs[k]?.getD 0 = z at *
      generalize lenE (zs.take k) = s at *
      go_wp2_with (go_at_call 150; refine (ones_any _ _ hzk.out).mono ?_; rintro e w' ⟨rfl, rfl⟩)
      refine ⟨⟨k + 1, by omega, by go_num, ?_, trivial⟩, by simp [intOf]; omega⟩
      have h1 := hb.out
      have h2 := hp.out
      rw [hl.out] at h1
      rw [ht.out, IntWalk.wrap64_in _ ⟨by omega, by omega⟩, Int.natCast_add]
    · obtain rfl : k = zs.length := by omega
      go_wp2
      go_ret
      exact ⟨ret_int (by rw [List.take_length]), rfl⟩

end Go.Proofs.Ytfeipfemknnhhaa

namespace Go.Proofs.Ytfeipfemknnhhaa
open Go.RowKit

/-- Block g holds just these cells, of that type, and may be written. -/
def Bk (w : World) (g : Nat) (t : TypeId) (cs : List Value) : Prop := w.heap[g]? = some (.cells cs.toArray t (0, 0))
theorem Bk.lt {w : World} {g : Nat} {t : TypeId} {cs : List Value} (h : Bk w g t cs) : g < w.heap.size := lt_of_block h
theorem Bk.cell {w : World} {g : Nat} {t : TypeId} {cs : List Value} (h : Bk w g t cs) (i : Nat) : w.cell? ⟨g, i, none⟩ = cs[i]? := by
  unfold Bk at h; simp [World.cell?, h]
theorem Bk.free {w : World} {g : Nat} {t : TypeId} {cs : List Value} (h : Bk w g t cs) (i : Nat) : w.frozen? ⟨g, i, none⟩ = false := by
  unfold Bk at h; simp [World.frozen?, h]
theorem Bk.new (w : World) (t : TypeId) (cs : List Value) : Bk (w.alloc (.cells cs.toArray t)) w.heap.size t cs := heap_alloc_new w _
theorem Bk.new' (w : World) (t : TypeId) (cs : List Value) {g : Nat} (hg : g = w.heap.size) : Bk (w.alloc (.cells cs.toArray t)) g t cs := hg ▸ Bk.new w t cs
theorem Bk.drew {w : World} {g : Nat} {t : TypeId} {cs : List Value} (h : Bk w g t cs) : Bk w.drew g t cs := h
theorem Bk.drewN {w : World} {g : Nat} {t : TypeId} {cs : List Value} (h : Bk w g t cs) (n : Nat) : Bk (w.drewN n) g t cs := h
theorem Bk.below {w w' : World} {g : Nat} {t : TypeId} {cs : List Value} (h : Bk w g t cs) (k : Below w.heap.size w w') : Bk w' g t cs := (k.block g h.lt).trans h
theorem Bk.keep {w w' : World} {g : Nat} {t : TypeId} {cs : List Value} {r : Option Nat} (h : Bk w g t cs) (k : w.grownBy w' r) (hr : some g ≠ r) : Bk w' g t cs := (k.block g h.lt hr).trans h
theorem Bk.alloc {w : World} {g : Nat} {t : TypeId} {cs : List Value} (h : Bk w g t cs) (o : Obj) : Bk (w.alloc o) g t cs := (Below.heap_alloc w o g h.lt).trans h
theorem Bk.set {w : World} {g : Nat} {t : TypeId} {cs : List Value} (h : Bk w g t cs) (i : Nat) (u : Value) : Bk (w.setCell ⟨g, i, none⟩ u) g t (cs.set i u) := by
  unfold Bk at h ⊢
  simp [World.setCell, Array.getElem?_modify, h, List.setIfInBounds_toArray]
theorem Bk.far {w : World} {g : Nat} {t : TypeId} {cs : List Value} (h : Bk w g t cs) {p : Addr} (hp : g ≠ p.block) (u : Value) : Bk (w.setCell p u) g t cs := (Below.heap_setCell w p u g hp).trans h
theorem Bk.ne {w : World} {g g' : Nat} {t t' : TypeId} {cs cs' : List Value} (h : Bk w g t cs) (h' : Bk w g' t' cs') (hn : t ≠ t') : g ≠ g' := by
  rintro rfl
  unfold Bk at h h'
  rw [h] at h'
  injection h' with h'
  injection h' with _ e
  exact hn e
/-- A row that the call owns is such a block, where its room is its length. -/
theorem Bk.of_owns {w : World} {base : Nat} {e : TypeId} {g n : Nat} {xs : List Value} (h : w.ownsRow base e 1 (.slice (some ⟨g, 0, none⟩) n n) n xs) : Bk w g e xs := by
  obtain ⟨hl, h | ⟨g', cap, cur, hv, hb, hh, hn, hm, hs, hc⟩⟩ := h
  · exact absurd h.1 (by simp)
  · injection hv with h1 h2 h3
    injection h1 with h1
    injection h1 with h1
    subst h1 h3
    rw [List.take_of_length_le (by simp [hs])] at hc
    unfold Bk
    rw [← hc]
    exact hh

theorem own_below {w w' : World} {base e : Nat} {v : Value} {n size : Nat} {xs : List Value} (h : w.ownsRow base e size v n xs) (k : Below w.heap.size w w') : w'.ownsRow base e size v n xs :=
  h.kept ⟨k.os, k.tape, k.output, k.size, fun i hi _ => k.block i hi⟩ (row := none) (by cases hv : v.ownBlock <;> simp)
theorem gb_refl (w : World) (r : Option Nat) : w.grownBy w r := ⟨rfl, rfl, rfl, Nat.le_refl _, fun _ _ _ => rfl⟩
theorem gb_below {w w' : World} (h : Below w.heap.size w w') (r : Option Nat) : w.grownBy w' r := ⟨h.os, h.tape, h.output, h.size, fun k hk _ => h.block k hk⟩
theorem below_gb {w w' : World} (h : w.grownBy w' none) : Below w.heap.size w w' := ⟨h.os, h.tape, h.output, h.size, fun k hk => h.block k hk (by simp)⟩
theorem gb_trans {w w1 w2 : World} {r : Option Nat} (h : w.grownBy w1 r) (k : w1.grownBy w2 r) : w.grownBy w2 r :=
  ⟨k.os.trans h.os, k.tape.trans h.tape, k.output.trans h.output, Nat.le_trans h.size k.size, fun i hi hr => (k.block i (Nat.lt_of_lt_of_le hi h.size) hr).trans (h.block i hi hr)⟩
theorem gb_drewN {w w1 : World} {r : Option Nat} (h : w.grownBy w1 r) (n : Nat) : w.grownBy (w1.drewN n) r := ⟨h.os, h.tape, h.output, h.size, h.block⟩
theorem gb_set {w w1 : World} {g : Nat} (h : w.grownBy w1 (some g)) (i : Nat) (u : Value) : w.grownBy (w1.setCell ⟨g, i, none⟩ u) (some g) :=
  ⟨h.os, h.tape, h.output, by simpa [World.setCell] using h.size, fun k hk hr => (Below.heap_setCell _ _ _ _ (fun e => hr (by simp [e]))).trans (h.block k hk hr)⟩

end Go.Proofs.Ytfeipfemknnhhaa

namespace Go.Proofs.Ytfeipfemknnhhaa
open Go.RowKit

def wAt (zs : List Nat) (i : Nat) : Nat := zs[i]?.getD 0
/-- Two sets word by word. -/
def bothE (f : Nat → Nat → Nat) (xs ys : List Nat) : List Nat := (List.range (max xs.length ys.length)).map fun i => f (wAt xs i) (wAt ys i)
theorem bothE_len (f : Nat → Nat → Nat) (xs ys : List Nat) : (bothE f xs ys).length = max xs.length ys.length := by simp [bothE]
/-- The first k of them, and nothing behind. -/
def bothK (f : Nat → Nat → Nat) (xs ys : List Nat) (n k : Nat) : List Value := (List.range n).map fun i => .int .u64 (if i < k then f (wAt xs i) (wAt ys i) else 0 : Nat)
theorem bothK_zero (f : Nat → Nat → Nat) (xs ys : List Nat) (n : Nat) : bothK f xs ys n 0 = List.replicate n (.int .u64 0) := by
  refine List.ext_getElem (by simp [bothK]) fun i h1 h2 => ?_
  simp [bothK]
theorem bothK_at (f : Nat → Nat → Nat) (xs ys : List Nat) (n k i : Nat) (h : i < n) : (bothK f xs ys n k)[i]? = some (.int .u64 (if i < k then f (wAt xs i) (wAt ys i) else 0 : Nat)) := by
  simp [bothK, h]
theorem bothK_step (f : Nat → Nat → Nat) (xs ys : List Nat) (n k : Nat) (_h : k < n) : (bothK f xs ys n k).set k (.int .u64 (f (wAt xs k) (wAt ys k) : Nat)) = bothK f xs ys n (k + 1) := by
  refine List.ext_getElem (by simp [bothK]) fun i h1 h2 => ?_
  have hi : i < n := by simpa [bothK] using h2
  rw [List.getElem_set]
  by_cases hk : k = i
  · subst hk
    simp [bothK]
  · rw [if_neg hk]
    simp only [bothK, List.getElem_map, List.getElem_range]
    by_cases hik : i < k
    · rw [if_pos hik, if_pos (by omega)]
    · rw [if_neg hik, if_neg (by omega)]
theorem wAt_lt {zs : List Nat} (h : ∀ z ∈ zs, z < 18446744073709551616) (i : Nat) : wAt zs i < 18446744073709551616 := by
  unfold wAt
  rcases Nat.lt_or_ge i zs.length with hi | hi
  · rw [List.getElem?_eq_getElem hi]; exact h _ (List.getElem_mem _)
  · rw [List.getElem?_eq_none hi]; decide
theorem u64_info : (Try.prog.info? 41).map (fun i => (i.zero, i.size, i.bytes)) = some (some (.int .u64 0), 1, 8) := by kernel_rfl
theorem make_u64 (n : Nat) (k : Int) (hk : (n : Int) = k) (hn : n ≤ 1048576) (w : World) :
    (Instr.makeSlice 24 (.int .i64 k) (.int .i64 k)).run Try.prog w = .ok (.slice (some ⟨w.heap.size, 0, none⟩) n n) (w.alloc (.cells (List.replicate n (Value.int .u64 0)).toArray 41)) := by
  subst hk
  have e : madeCells #[Value.int .u64 0] n = (List.replicate n (Value.int .u64 0)).toArray := by rw [← Array.toList_inj, toList_madeCells_one]
  rw [← e]
  exact run_make_row' (P := Try.prog) 24 41 (.int .u64 0) 8 Try.underlying24 u64_info rfl .i64 .i64 n (by omega) (by omega) w

set_option maxHeartbeats 3200000 in
set_option maxRecDepth 100000 in
theorem both_any (F : FuncId) (f : Nat → Nat → Nat) (v1 v2 : Value) (xs ys : List Nat) (w : World) (h1 : Ws w v1 xs) (h2 : Ws w v2 ys) (hx : xs.length ≤ 100000) (hy : ys.length ≤ 100000)
    (el : ∀ args w, (callFunc F args).run Try.prog w = .ok (.enter F args) w)
    (hf : ∀ x y w, x < 18446744073709551616 → y < 18446744073709551616 → Calls Try.prog F #[.int .u64 (x : Nat), .int .u64 (y : Nat)] w fun e w' => e = .returned (.int .u64 (f x y : Nat)) ∧ w' = w)
    (hb : ∀ x y, x < 18446744073709551616 → y < 18446744073709551616 → f x y < 18446744073709551616) :
    Calls Try.prog 114 #[v1, v2, .func (.func F) #[] #[]] w fun e w' => ∃ v, e = .returned v ∧ Ws w' v (bothE f xs ys) ∧ Below w.heap.size w w' := by
  have HF := Lib.hid hf
  have B1 := Lib.hid (wAt_lt h1.1)
  have B2 := Lib.hid (wAt_lt h2.1)
  have HBD := Lib.hid hb
  obtain ⟨p1, c1, rfl, hc1⟩ := ws_row h1
  obtain ⟨p2, c2, rfl, hc2⟩ := ws_row h2
  have H1 := Lib.hid hc1
  have H2 := Lib.hid hc2
  clear hf hb h1 h2 hc1 hc2
  have hmk1 := make_u64 xs.length xs.length rfl (by omega)
  have hmk2 := make_u64 ys.length ys.length rfl (by omega)
  go_enter Try.func114, Try.ntmps114
  rcases (show (ys.length : Int) ≤ xs.length ∨ (xs.length : Int) < ys.length by omega) with hle | hle
  · go_wp2_with fail
    have HN := Lib.hid (show xs.length = max xs.length ys.length by omega)
    clear hmk1 hmk2
    go_loopw [19] (fun i wr => ∃ k : Nat, k ≤ xs.length ∧ i = .int .i64 k ∧ Bk wr w.heap.size 41 (bothK f xs ys xs.length k) ∧ Below w.heap.size w wr)
      (fun i _ => xs.length - (intOf i).toNat)
    case atStart => exact ⟨0, Nat.zero_le _, rfl, by rw [bothK_zero]; exact Bk.new _ _ _, (Below.refl _ _).alloc (Nat.le_refl _) _⟩
    case round =>
      obtain ⟨k, hk, rfl, hb, hB⟩ := hrel
      have HK := Lib.hid hb
      have HB := Lib.hid hB
      clear hb hB
      by_cases hlt : k < xs.length
      · have hcell : wr.cell? ⟨w.heap.size, k, none⟩ = some (.int .u64 0) := by
          rw [HK.out.cell, bothK_at _ _ _ _ _ _ hlt, if_neg (Nat.lt_irrefl k)]; rfl
        have hfree := HK.out.free k
        have HS := Lib.hid (HK.out.set k (.int .u64 (f (wAt xs k) (wAt ys k) : Nat)))
        have HS := Lib.hid (show Bk (wr.setCell ⟨w.heap.size, k, none⟩ (.int .u64 (f (wAt xs k) (wAt ys k) : Nat))) w.heap.size 41 (bothK f xs ys xs.length (k + 1)) by have h7 := HS.out; rw [bothK_step _ _ _ _ _ hlt] at h7; exact h7)
        have HFK := Lib.hid (HF.out (wAt xs k) (wAt ys k) wr (B1.out k) (B2.out k))
        by_cases hkx : k < xs.length
        · have hkx2 : (k : Int) < xs.length := by omega
          obtain ⟨a1, rfl, q1⟩ := H1.out (by omega)
          replace q1 := keepc (q1 k hkx) HB.out
          have hwx : xs[k]?.getD 0 = wAt xs k := rfl
          rw [hwx] at q1
          by_cases hky : k < ys.length
          · have hky2 : (k : Int) < ys.length := by omega
            obtain ⟨a2, rfl, q2⟩ := H2.out (by omega)
            replace q2 := keepc (q2 k hky) HB.out
            have hwy : ys[k]?.getD 0 = wAt ys k := rfl
            rw [hwy] at q2
            have HX := Lib.hid (And.intro hwx hwy)
            clear hwx hwy
            go_wp2_with fail
            refine HFK.out.mono ?_
            rintro e w1 ⟨rfl, rfl⟩
            go_wp2_with fail
            go_roundw
            case rel => exact ⟨k + 1, by omega, by go_num, HS.out, HB.out.setCell (p := ⟨w.heap.size, k, none⟩) (Nat.le_refl _) _⟩
            case measure => simp [intOf]; omega
          · have hky2 : ¬ (k : Int) < ys.length := by omega
            have hwy : wAt ys k = 0 := by unfold wAt; rw [List.getElem?_eq_none (by omega)]; rfl
            rw [hwy] at HFK HS
            have HX := Lib.hid (And.intro hwx hwy)
            clear hwx hwy
            go_wp2_with fail
            refine HFK.out.mono ?_
            rintro e w1 ⟨rfl, rfl⟩
            go_wp2_with fail
            go_roundw
            case rel => exact ⟨k + 1, by omega, by go_num, HS.out, HB.out.setCell (p := ⟨w.heap.size, k, none⟩) (Nat.le_refl _) _⟩
            case measure => simp [intOf]; omega
        · have hkx2 : ¬ (k : Int) < xs.length := by omega
          have hwx : wAt xs k = 0 := by unfold wAt; rw [List.getElem?_eq_none (by omega)]; rfl
          rw [hwx] at HFK HS
          by_cases hky : k < ys.length
          · exfalso; omega
          · exfalso; omega
      · obtain rfl : k = xs.length := by omega
        go_wp2_with fail
        go_ret
        refine ⟨_, rfl, ⟨fun z hz => ?_, .inr ⟨⟨w.heap.size, 0, none⟩, _, by rw [bothE_len, ← HN.out]; rfl, fun i hi => ?_⟩⟩, HB.out⟩
        · obtain ⟨i, _, rfl⟩ := List.mem_map.1 hz
          exact HBD.out _ _ (B1.out i) (B2.out i)
        · rw [bothE_len, ← HN.out] at hi
          rw [show (⟨w.heap.size, 0, none⟩ : Addr).add i = ⟨w.heap.size, i, none⟩ from by unfold Addr.add; split <;> simp_all, HK.out.cell, bothK_at _ _ _ _ _ _ hi, if_pos hi]
          congr 3
          unfold bothE
          rw [List.getElem?_map, List.getElem?_range (by rw [← HN.out]; exact hi)]
          rfl
  · go_wp2_with fail
    have HN := Lib.hid (show ys.length = max xs.length ys.length by omega)
    clear hmk1 hmk2
    go_loopw [19] (fun i wr => ∃ k : Nat, k ≤ ys.length ∧ i = .int .i64 k ∧ Bk wr w.heap.size 41 (bothK f xs ys ys.length k) ∧ Below w.heap.size w wr)
      (fun i _ => ys.length - (intOf i).toNat)
    case atStart => exact ⟨0, Nat.zero_le _, rfl, by rw [bothK_zero]; exact Bk.new _ _ _, (Below.refl _ _).alloc (Nat.le_refl _) _⟩
    case round =>
      obtain ⟨k, hk, rfl, hb, hB⟩ := hrel
      have HK := Lib.hid hb
      have HB := Lib.hid hB
      clear hb hB
      by_cases hlt : k < ys.length
      · have hcell : wr.cell? ⟨w.heap.size, k, none⟩ = some (.int .u64 0) := by
          rw [HK.out.cell, bothK_at _ _ _ _ _ _ hlt, if_neg (Nat.lt_irrefl k)]; rfl
        have hfree := HK.out.free k
        have HS := Lib.hid (HK.out.set k (.int .u64 (f (wAt xs k) (wAt ys k) : Nat)))
        have HS := Lib.hid (show Bk (wr.setCell ⟨w.heap.size, k, none⟩ (.int .u64 (f (wAt xs k) (wAt ys k) : Nat))) w.heap.size 41 (bothK f xs ys ys.length (k + 1)) by have h7 := HS.out; rw [bothK_step _ _ _ _ _ hlt] at h7; exact h7)
        have HFK := Lib.hid (HF.out (wAt xs k) (wAt ys k) wr (B1.out k) (B2.out k))
        by_cases hkx : k < xs.length
        · have hkx2 : (k : Int) < xs.length := by omega
          obtain ⟨a1, rfl, q1⟩ := H1.out (by omega)
          replace q1 := keepc (q1 k hkx) HB.out
          have hwx : xs[k]?.getD 0 = wAt xs k := rfl
          rw [hwx] at q1
          by_cases hky : k < ys.length
          · have hky2 : (k : Int) < ys.length := by omega
            obtain ⟨a2, rfl, q2⟩ := H2.out (by omega)
            replace q2 := keepc (q2 k hky) HB.out
            have hwy : ys[k]?.getD 0 = wAt ys k := rfl
            rw [hwy] at q2
            have HX := Lib.hid (And.intro hwx hwy)
            clear hwx hwy
            go_wp2_with fail
            refine HFK.out.mono ?_
            rintro e w1 ⟨rfl, rfl⟩
            go_wp2_with fail
            go_roundw
            case rel => exact ⟨k + 1, by omega, by go_num, HS.out, HB.out.setCell (p := ⟨w.heap.size, k, none⟩) (Nat.le_refl _) _⟩
            case measure => simp [intOf]; omega
          · exfalso; omega
        · have hkx2 : ¬ (k : Int) < xs.length := by omega
          have hwx : wAt xs k = 0 := by unfold wAt; rw [List.getElem?_eq_none (by omega)]; rfl
          rw [hwx] at HFK HS
          by_cases hky : k < ys.length
          · have hky2 : (k : Int) < ys.length := by omega
            obtain ⟨a2, rfl, q2⟩ := H2.out (by omega)
            replace q2 := keepc (q2 k hky) HB.out
            have hwy : ys[k]?.getD 0 = wAt ys k := rfl
            rw [hwy] at q2
            have HX := Lib.hid (And.intro hwx hwy)
            clear hwx hwy
            go_wp2_with fail
            refine HFK.out.mono ?_
            rintro e w1 ⟨rfl, rfl⟩
            go_wp2_with fail
            go_roundw
            case rel => exact ⟨k + 1, by omega, by go_num, HS.out, HB.out.setCell (p := ⟨w.heap.size, k, none⟩) (Nat.le_refl _) _⟩
            case measure => simp [intOf]; omega
          · exfalso; omega
      · obtain rfl : k = ys.length := by omega
        go_wp2_with fail
        go_ret
        refine ⟨_, rfl, ⟨fun z hz => ?_, .inr ⟨⟨w.heap.size, 0, none⟩, _, by rw [bothE_len, ← HN.out]; rfl, fun i hi => ?_⟩⟩, HB.out⟩
        · obtain ⟨i, _, rfl⟩ := List.mem_map.1 hz
          exact HBD.out _ _ (B1.out i) (B2.out i)
        · rw [bothE_len, ← HN.out] at hi
          rw [show (⟨w.heap.size, 0, none⟩ : Addr).add i = ⟨w.heap.size, i, none⟩ from by unfold Addr.add; split <;> simp_all, HK.out.cell, bothK_at _ _ _ _ _ _ hi, if_pos hi]
          congr 3
          unfold bothE
          rw [List.getElem?_map, List.getElem?_range (by rw [← HN.out]; exact hi)]
          rfl

end Go.Proofs.Ytfeipfemknnhhaa

namespace Go.Proofs.Ytfeipfemknnhhaa
open Go.RowKit Go.Shelf

def orN (x y : Nat) : Nat := x ||| y
def andN (x y : Nat) : Nat := x &&& y
def minN (x y : Nat) : Nat := x &&& (18446744073709551615 - y)
theorem orN_lt (x y : Nat) (hx : x < 18446744073709551616) (hy : y < 18446744073709551616) : orN x y < 18446744073709551616 := Nat.or_lt_two_pow (n := 64) hx hy
theorem andN_lt (x y : Nat) (hx : x < 18446744073709551616) (_ : y < 18446744073709551616) : andN x y < 18446744073709551616 := Nat.lt_of_le_of_lt Nat.and_le_left hx
theorem minN_lt (x y : Nat) (hx : x < 18446744073709551616) (_ : y < 18446744073709551616) : minN x y < 18446744073709551616 := Nat.lt_of_le_of_lt Nat.and_le_left hx

set_option maxHeartbeats 1600000 in
set_option maxRecDepth 100000 in
theorem orN_any (x y : Nat) (w : World) (hx : x < 18446744073709551616) (hy : y < 18446744073709551616) :
    Calls Try.prog 115 #[.int .u64 (x : Nat), .int .u64 (y : Nat)] w fun e w' => e = .returned (.int .u64 (orN x y : Nat)) ∧ w' = w := by
  have hop : bits .or .u64 (x : Int) (y : Int) = ((orN x y : Nat) : Int) := (bits_nat .u64 64 (by decide) wraps_u64 x y hx hy).2
  go_enter Try.func115, Try.ntmps115
  go_wp2_with fail
  go_ret
  exact ⟨rfl, rfl⟩

set_option maxHeartbeats 1600000 in
set_option maxRecDepth 100000 in
theorem union_any (v1 v2 : Value) (xs ys : List Nat) (w : World) (h1 : Ws w v1 xs) (h2 : Ws w v2 ys) (hx : xs.length ≤ 100000) (hy : ys.length ≤ 100000) :
    Calls Try.prog 88 #[v1, v2] w fun e w' => ∃ v, e = .returned v ∧ Ws w' v (bothE orN xs ys) ∧ Below w.heap.size w w' := by
  have H1 := Lib.hid h1
  have H2 := Lib.hid h2
  obtain ⟨p1, c1, rfl⟩ := ws_len h1
  obtain ⟨p2, c2, rfl⟩ := ws_len h2
  go_enter Try.func88, Try.ntmps88
  go_wp2_with fail
  refine (both_any 115 orN _ _ xs ys _ H1.out H2.out hx hy (enters_of Try.func115 (by kernel_rfl) rfl) (fun x y w hx hy => orN_any x y w hx hy) orN_lt).mono ?_
  rintro e w1 ⟨v, rfl, hW, hB⟩
  have HW := Lib.hid hW
  have HB := Lib.hid hB
  go_wp2_with fail
  go_ret
  exact ⟨_, rfl, HW.out, HB.out⟩



set_option maxHeartbeats 1600000 in
set_option maxRecDepth 100000 in
theorem minN_any (x y : Nat) (w : World) (hx : x < 18446744073709551616) (hy : y < 18446744073709551616) :
    Calls Try.prog 116 #[.int .u64 (x : Nat), .int .u64 (y : Nat)] w fun e w' => e = .returned (.int .u64 (minN x y : Nat)) ∧ w' = w := by
  have hop : bits .andNot .u64 (x : Int) (y : Int) = ((minN x y : Nat) : Int) := u64_andNot_nat x y hx hy
  go_enter Try.func116, Try.ntmps116
  go_wp2_with fail
  go_ret
  exact ⟨rfl, rfl⟩

set_option maxHeartbeats 1600000 in
set_option maxRecDepth 100000 in
theorem minus_any (v1 v2 : Value) (xs ys : List Nat) (w : World) (h1 : Ws w v1 xs) (h2 : Ws w v2 ys) (hx : xs.length ≤ 100000) (hy : ys.length ≤ 100000) :
    Calls Try.prog 89 #[v1, v2] w fun e w' => ∃ v, e = .returned v ∧ Ws w' v (bothE minN xs ys) ∧ Below w.heap.size w w' := by
  have H1 := Lib.hid h1
  have H2 := Lib.hid h2
  obtain ⟨p1, c1, rfl⟩ := ws_len h1
  obtain ⟨p2, c2, rfl⟩ := ws_len h2
  go_enter Try.func89, Try.ntmps89
  go_wp2_with fail
  refine (both_any 116 minN _ _ xs ys _ H1.out H2.out hx hy (enters_of Try.func116 (by kernel_rfl) rfl) (fun x y w hx hy => minN_any x y w hx hy) minN_lt).mono ?_
  rintro e w1 ⟨v, rfl, hW, hB⟩
  have HW := Lib.hid hW
  have HB := Lib.hid hB
  go_wp2_with fail
  go_ret
  exact ⟨_, rfl, HW.out, HB.out⟩

set_option maxHeartbeats 1600000 in
set_option maxRecDepth 100000 in
theorem within_any (v1 v2 : Value) (xs ys : List Nat) (w : World) (h1 : Ws w v1 xs) (h2 : Ws w v2 ys) (hx : xs.length ≤ 100000) (hy : ys.length ≤ 100000) :
    Calls Try.prog 110 #[v1, v2] w fun e w' => e = .returned (.bool (lenE (bothE minN xs ys) == 0)) ∧ Below w.heap.size w w' := by
  have H1 := Lib.hid h1
  have H2 := Lib.hid h2
  obtain ⟨p1, c1, rfl⟩ := ws_len h1
  obtain ⟨p2, c2, rfl⟩ := ws_len h2
  go_enter Try.func110, Try.ntmps110
  go_wp2_with fail
  refine (minus_any _ _ xs ys _ H1.out H2.out hx hy).mono ?_
  rintro e w1 ⟨v, rfl, hW, hB⟩
  have HW := Lib.hid hW
  have HB := Lib.hid hB
  obtain ⟨p3, c3, rfl⟩ := ws_len hW
  clear hW hB
  go_wp2_with fail
  refine (len_any _ _ w1 HW.out (by rw [bothE_len]; omega)).mono ?_
  rintro e w2 ⟨rfl, rfl⟩
  obtain ⟨n, hn⟩ : ∃ n, n = lenE (bothE minN xs ys) := ⟨_, rfl⟩
  rw [← hn]
  have HN := Lib.hid hn
  clear hn
  have hq : ((n : Int) == 0) = (n == 0) := by rw [Bool.eq_iff_iff]; simp
  go_wp2_with fail
  go_ret
  exact ⟨ret_bool (by rw [← HN.out]), HB.out⟩

end Go.Proofs.Ytfeipfemknnhhaa

namespace Go.Proofs.Ytfeipfemknnhhaa
open Go.RowKit

theorem or_half (x y : Nat) : (x ||| y) / 2 = x / 2 ||| y / 2 := by
  have := @Nat.shiftRight_or_distrib 1 x y
  simpa [Nat.shiftRight_succ] using this
theorem and_half (x y : Nat) : (x &&& y) / 2 = x / 2 &&& y / 2 := by
  have := @Nat.shiftRight_and_distrib 1 x y
  simpa [Nat.shiftRight_succ] using this
theorem or_and_low (x y : Nat) : (x ||| y) % 2 + (x &&& y) % 2 = x % 2 + y % 2 := by
  have h1 := Nat.or_mod_two_pow (a := x) (b := y) (n := 1)
  have h2 := Nat.and_mod_two_pow (a := x) (b := y) (n := 1)
  simp only [Nat.pow_one] at h1 h2
  rw [h1, h2]
  rcases Nat.mod_two_eq_zero_or_one x with e | e <;> rcases Nat.mod_two_eq_zero_or_one y with f | f <;> rw [e, f] <;> decide
theorem pop_or_and (j : Nat) : ∀ x y, pop j (x ||| y) + pop j (x &&& y) = pop j x + pop j y := by
  induction j with
  | zero => intro x y; rfl
  | succ j ih =>
    intro x y
    have h1 := ih (x / 2) (y / 2)
    have h2 := or_and_low x y
    simp only [pop, or_half, and_half]
    omega
theorem pop_zero (j : Nat) : pop j 0 = 0 := by
  induction j with
  | zero => rfl
  | succ j ih => simp [pop, ih]
/-- A set's numbers, counted over more words than it has. -/
theorem lenE_pad (zs : List Nat) (n : Nat) (h : zs.length ≤ n) : lenE zs = ((List.range n).map fun i => pop 64 (wAt zs i)).sum := by
  induction n with
  | zero =>
    have : zs = [] := List.eq_nil_of_length_eq_zero (by omega)
    subst this
    simp [lenE]
  | succ n ih =>
    rw [List.range_succ, List.map_append, List.sum_append]
    by_cases hz : zs.length ≤ n
    · rw [← ih hz]
      have : wAt zs n = 0 := by unfold wAt; rw [List.getElem?_eq_none hz]; rfl
      simp [this, pop_zero]
    · have hl : zs.length = n + 1 := by omega
      have e := lenE_take zs n (by omega)
      rw [← hl, List.take_length] at e
      rw [e]
      have : ∀ m, m ≤ n → lenE (zs.take m) = ((List.range m).map fun i => pop 64 (wAt zs i)).sum := by
        intro m hm
        induction m with
        | zero => simp [lenE]
        | succ m ih2 =>
          rw [lenE_take zs m (by omega), ih2 (by omega), List.range_succ, List.map_append, List.sum_append]
          simp [wAt]
      rw [this n (Nat.le_refl _)]
      simp [wAt]
theorem lenE_both (f : Nat → Nat → Nat) (xs ys : List Nat) : lenE (bothE f xs ys) = ((List.range (max xs.length ys.length)).map fun i => pop 64 (f (wAt xs i) (wAt ys i))).sum := by
  unfold lenE bothE
  rw [List.map_map]
  rfl
theorem sum_add (n : Nat) (f g h k : Nat → Nat) (e : ∀ i, f i + g i = h i + k i) : ((List.range n).map f).sum + ((List.range n).map g).sum = ((List.range n).map h).sum + ((List.range n).map k).sum := by
  induction n with
  | zero => rfl
  | succ n ih =>
    simp only [List.range_succ, List.map_append, List.sum_append, List.map_cons, List.map_nil, List.sum_cons, List.sum_nil]
    have := e n
    omega
/-- In either, and in both: as many as both have. -/
theorem lenE_or_and (xs ys : List Nat) : lenE (bothE orN xs ys) + lenE (bothE andN xs ys) = lenE xs + lenE ys := by
  rw [lenE_both, lenE_both, lenE_pad xs (max xs.length ys.length) (by omega), lenE_pad ys (max xs.length ys.length) (by omega)]
  exact sum_add _ _ _ _ _ fun i => pop_or_and 64 _ _

theorem pop_eq_zero (j : Nat) : ∀ x, x < 2 ^ j → (pop j x = 0 ↔ x = 0) := by
  induction j with
  | zero =>
    intro x hx
    have : x = 0 := by simpa using hx
    simp [pop, this]
  | succ j ih =>
    intro x hx
    have h1 := ih (x / 2) (by rw [Nat.pow_succ] at hx; omega)
    simp only [pop]
    omega
theorem sum_zero (n : Nat) (f : Nat → Nat) : ((List.range n).map f).sum = 0 ↔ ∀ i, i < n → f i = 0 := by
  induction n with
  | zero => simp
  | succ n ih =>
    simp only [List.range_succ, List.map_append, List.sum_append, List.map_cons, List.map_nil, List.sum_cons, List.sum_nil]
    constructor
    · intro h i hi
      rcases (show i < n ∨ i = n by omega) with h' | rfl
      · exact ih.1 (by omega) i h'
      · omega
    · intro h
      have h1 := ih.2 fun i hi => h i (by omega)
      have h2 := h n (by omega)
      omega
/-- All that is in the first one is in the second one: word by word. -/
theorem within_iff (xs ys : List Nat) (hx : ∀ z ∈ xs, z < 18446744073709551616) (hy : ∀ z ∈ ys, z < 18446744073709551616) : lenE (bothE minN xs ys) = 0 ↔ ∀ i, minN (wAt xs i) (wAt ys i) = 0 := by
  rw [lenE_both, sum_zero]
  constructor
  · intro h i
    by_cases hi : i < max xs.length ys.length
    · exact (pop_eq_zero 64 _ (minN_lt _ _ (wAt_lt hx i) (wAt_lt hy i))).1 (h i hi)
    · have : wAt xs i = 0 := by unfold wAt; rw [List.getElem?_eq_none (by omega)]; rfl
      rw [this]
      simp [minN]
  · intro h i _
    rw [h i]
    exact pop_zero 64
theorem bothE_at (f : Nat → Nat → Nat) (h0 : f 0 0 = 0) (xs ys : List Nat) (i : Nat) : wAt (bothE f xs ys) i = f (wAt xs i) (wAt ys i) := by
  by_cases hi : i < max xs.length ys.length
  · unfold bothE
    rw [wAt, List.getElem?_map, List.getElem?_range hi]
    rfl
  · have h1 : wAt xs i = 0 := by unfold wAt; rw [List.getElem?_eq_none (by omega)]; rfl
    have h2 : wAt ys i = 0 := by unfold wAt; rw [List.getElem?_eq_none (by omega)]; rfl
    rw [h1, h2, h0, wAt, List.getElem?_eq_none (by rw [bothE_len]; omega)]
    rfl

theorem minN_bit (x y k : Nat) (hx : x < 18446744073709551616) (hy : y < 18446744073709551616) : (minN x y).testBit k = (x.testBit k && !(y.testBit k)) := by
  have e : 18446744073709551615 - y = 2 ^ 64 - (y + 1) := by omega
  unfold minN
  rw [Nat.testBit_and, e, Nat.testBit_two_pow_sub_succ hy]
  by_cases hk : k < 64
  · simp [hk]
  · have : x.testBit k = false := Nat.testBit_lt_two_pow (Nat.lt_of_lt_of_le hx (Nat.pow_le_pow_right (n := 2) (by decide) (show 64 ≤ k by omega)))
    simp [this]
/-- Bit by bit. -/
theorem sub_iff (x y : Nat) (hx : x < 18446744073709551616) (hy : y < 18446744073709551616) : minN x y = 0 ↔ ∀ k, x.testBit k = true → y.testBit k = true := by
  constructor
  · intro h k hk
    have := minN_bit x y k hx hy
    rw [h, Nat.zero_testBit, hk] at this
    simpa using this.symm
  · intro h
    refine Nat.eq_of_testBit_eq fun k => ?_
    rw [minN_bit x y k hx hy, Nat.zero_testBit]
    by_cases hk : x.testBit k = true
    · rw [hk, h k hk]; rfl
    · simp [hk]
theorem sub_trans {x y z : Nat} (hx : x < 18446744073709551616) (hy : y < 18446744073709551616) (hz : z < 18446744073709551616) (h : minN x y = 0) (k : minN y z = 0) : minN x z = 0 :=
  (sub_iff x z hx hz).2 fun i hi => (sub_iff y z hy hz).1 k i ((sub_iff x y hx hy).1 h i hi)
theorem all_word (x y : Nat) (hx : x < 18446744073709551616) (hy : y < 18446744073709551616) : orN (minN x y) (andN x y) = x := by
  refine Nat.eq_of_testBit_eq fun k => ?_
  unfold orN andN
  rw [Nat.testBit_or, minN_bit x y k hx hy, Nat.testBit_and]
  cases x.testBit k <;> cases y.testBit k <;> rfl
theorem dist_word (x y z : Nat) : andN x (orN y z) = orN (andN x y) (andN x z) := by
  refine Nat.eq_of_testBit_eq fun k => ?_
  unfold orN andN
  rw [Nat.testBit_and, Nat.testBit_or, Nat.testBit_or, Nat.testBit_and, Nat.testBit_and]
  cases x.testBit k <;> cases y.testBit k <;> cases z.testBit k <;> rfl
theorem sub_refl (x : Nat) (hx : x < 18446744073709551616) : minN x x = 0 := (sub_iff x x hx hx).2 fun _ h => h

/-- Within, as the program's count tells it. -/
def subE (xs ys : List Nat) : Bool := lenE (bothE minN xs ys) == 0
theorem subE_iff {xs ys : List Nat} (hx : ∀ z ∈ xs, z < 18446744073709551616) (hy : ∀ z ∈ ys, z < 18446744073709551616) : subE xs ys = true ↔ ∀ i, minN (wAt xs i) (wAt ys i) = 0 := by
  unfold subE
  rw [beq_iff_eq]
  exact within_iff xs ys hx hy
theorem bothE_lt {f : Nat → Nat → Nat} (hf : ∀ x y, x < 18446744073709551616 → y < 18446744073709551616 → f x y < 18446744073709551616) {xs ys : List Nat} (hx : ∀ z ∈ xs, z < 18446744073709551616) (hy : ∀ z ∈ ys, z < 18446744073709551616) :
    ∀ z ∈ bothE f xs ys, z < 18446744073709551616 := fun z hz => by
  obtain ⟨i, _, rfl⟩ := List.mem_map.1 hz
  exact hf _ _ (wAt_lt hx i) (wAt_lt hy i)
section
variable {xs ys zs : List Nat} (hx : ∀ z ∈ xs, z < 18446744073709551616) (hy : ∀ z ∈ ys, z < 18446744073709551616)
include hx hy
theorem all_in (i : Nat) : wAt (bothE orN (bothE minN xs ys) (bothE andN xs ys)) i = wAt xs i := by
  rw [bothE_at orN rfl, bothE_at minN rfl, bothE_at andN rfl, all_word _ _ (wAt_lt hx i) (wAt_lt hy i)]
theorem law_all1 : subE xs (bothE orN (bothE minN xs ys) (bothE andN xs ys)) = true :=
  (subE_iff hx (bothE_lt orN_lt (bothE_lt minN_lt hx hy) (bothE_lt andN_lt hx hy))).2 fun i => by rw [all_in hx hy i]; exact sub_refl _ (wAt_lt hx i)
theorem law_all2 : subE (bothE orN (bothE minN xs ys) (bothE andN xs ys)) xs = true :=
  (subE_iff (bothE_lt orN_lt (bothE_lt minN_lt hx hy) (bothE_lt andN_lt hx hy)) hx).2 fun i => by rw [all_in hx hy i]; exact sub_refl _ (wAt_lt hx i)
theorem law_dist (hz : ∀ z ∈ zs, z < 18446744073709551616) : subE (bothE andN xs (bothE orN ys zs)) (bothE orN (bothE andN xs ys) (bothE andN xs zs)) = true := by
  refine (subE_iff (bothE_lt andN_lt hx (bothE_lt orN_lt hy hz)) (bothE_lt orN_lt (bothE_lt andN_lt hx hy) (bothE_lt andN_lt hx hz))).2 fun i => ?_
  rw [bothE_at andN rfl, bothE_at orN rfl, bothE_at orN rfl, bothE_at andN rfl, bothE_at andN rfl, dist_word]
  exact sub_refl _ (orN_lt _ _ (andN_lt _ _ (wAt_lt hx i) (wAt_lt hy i)) (andN_lt _ _ (wAt_lt hx i) (wAt_lt hz i)))
theorem law_trans (hz : ∀ z ∈ zs, z < 18446744073709551616) (h : subE xs ys = true) (k : subE ys zs = true) : subE xs zs = true :=
  (subE_iff hx hz).2 fun i => sub_trans (wAt_lt hx i) (wAt_lt hy i) (wAt_lt hz i) ((subE_iff hx hy).1 h i) ((subE_iff hy hz).1 k i)
end

end Go.Proofs.Ytfeipfemknnhhaa

namespace Go.Proofs.Ytfeipfemknnhhaa
open Go.RowKit

/-- The numbers of a word's first j bits, counted from i on. -/
def bl : Nat → Nat → Nat → List Nat
  | 0, _, _ => []
  | j + 1, i, x => if x % 2 = 1 then i :: bl j (i + 1) (x / 2) else bl j (i + 1) (x / 2)
theorem bl_zero (j : Nat) : ∀ i, bl j i 0 = [] := by
  induction j with
  | zero => intro i; rfl
  | succ j ih => intro i; simp [bl, ih]
theorem bl_len (j : Nat) : ∀ i x, (bl j i x).length = pop j x := by
  induction j with
  | zero => intro i x; rfl
  | succ j ih =>
    intro i x
    simp only [bl, pop]
    split
    · rw [List.length_cons, ih]; omega
    · rw [ih]; omega
theorem low_half (x : Nat) (h : x % 2 = 1) : (x &&& (x - 1)) / 2 = x / 2 ∧ (x &&& (x - 1)) % 2 = 0 := by
  have e : (x - 1) / 2 = x / 2 := by omega
  refine ⟨by rw [and_half, e, Nat.and_self], ?_⟩
  have h2 := Nat.and_mod_two_pow (a := x) (b := x - 1) (n := 1)
  simp only [Nat.pow_one] at h2
  rw [h2, h, show (x - 1) % 2 = 0 by omega]; rfl
theorem high_half (x : Nat) (h : x % 2 = 0) (_h0 : x ≠ 0) : (x &&& (x - 1)) / 2 = x / 2 &&& (x / 2 - 1) ∧ (x &&& (x - 1)) % 2 = 0 := by
  have e : (x - 1) / 2 = x / 2 - 1 := by omega
  refine ⟨by rw [and_half, e], ?_⟩
  have h2 := Nat.and_mod_two_pow (a := x) (b := x - 1) (n := 1)
  simp only [Nat.pow_one] at h2
  rw [h2, h, show (x - 1) % 2 = 1 by omega]; rfl
/-- The lowest one first; then those of the word without it. -/
theorem bl_step (j : Nat) : ∀ i x, x ≠ 0 → x < 2 ^ j → bl j i x = (i + Lib.ctzFrom j x) :: bl j i (x &&& (x - 1)) := by
  induction j with
  | zero => intro i x h0 h; simp at h; omega
  | succ j ih =>
    intro i x h0 h
    rw [bl, Lib.ctzFrom]
    by_cases hx : x % 2 = 1
    · obtain ⟨e1, e2⟩ := low_half x hx
      rw [if_pos hx, if_pos hx, bl, if_neg (by omega), e1]; rfl
    · obtain ⟨e1, e2⟩ := high_half x (by omega) h0
      rw [if_neg hx, if_neg hx, bl, if_neg (by omega), e1, ih (i + 1) (x / 2) (by omega) (by rw [Nat.pow_succ] at h; omega)]
      congr 1
      omega
theorem bl_lt (j : Nat) : ∀ i x, ∀ n ∈ bl j i x, n < i + j := by
  induction j with
  | zero => intro i x n h; cases h
  | succ j ih =>
    intro i x n h
    simp only [bl] at h
    split at h
    · rcases List.mem_cons.1 h with rfl | h
      · omega
      · have := ih _ _ n h; omega
    · have := ih _ _ n h; omega
/-- The numbers of the first k words. -/
def setK (zs : List Nat) (k : Nat) : List Nat := (List.range k).flatMap fun i => bl 64 (64 * i) (wAt zs i)
def setE (zs : List Nat) : List Nat := setK zs zs.length
theorem setK_succ (zs : List Nat) (k : Nat) : setK zs (k + 1) = setK zs k ++ bl 64 (64 * k) (wAt zs k) := by
  simp [setK, List.range_succ]
theorem setK_lt (zs : List Nat) (k : Nat) : ∀ n ∈ setK zs k, n < 64 * k := fun n h => by
  obtain ⟨i, hi, h⟩ := List.mem_flatMap.1 h
  have := bl_lt _ _ _ n h
  have := List.mem_range.1 hi
  omega
theorem setK_len (zs : List Nat) (k : Nat) (h : k ≤ zs.length) : (setK zs k).length = lenE (zs.take k) := by
  induction k with
  | zero => simp [setK, lenE]
  | succ k ih =>
    rw [setK_succ, List.length_append, ih (by omega), bl_len, lenE_take zs k (by omega)]
    rfl
theorem setE_len (zs : List Nat) : (setE zs).length = lenE zs := by
  unfold setE
  rw [setK_len zs _ (Nat.le_refl _), List.take_length]
theorem setK_prefix (zs : List Nat) (k n : Nat) (h : k ≤ n) : setK zs k <+: setK zs n := by
  induction n with
  | zero => obtain rfl : k = 0 := by omega
            exact List.prefix_refl _
  | succ n ih =>
    rcases (show k ≤ n ∨ k = n + 1 by omega) with h' | rfl
    · exact (ih h').trans (by rw [setK_succ]; exact List.prefix_append _ _)
    · exact List.prefix_refl _

end Go.Proofs.Ytfeipfemknnhhaa

namespace Go.Proofs.Ytfeipfemknnhhaa
open Go.RowKit

/-- One step of a region: operation number i, that yields v, is taken first; its place is written out. -/
theorem take_at {P : Program} {md : Region.Mode} {ops : Array Oper} {Q : Exit → Act → World → Prop} {S : World → Prop} (i : Nat) {oi : Oper} (d : Option Tmp) {v : Value} {fuel : Nat} {listed : Array Bool} {a : Act} {w : World} (hi : ops[i]? = some oi) (hd : oi.dst = d)
    (hs : Region.noSelect ops = true) (hf : Region.free md ops listed i = true) (hr : (Region.ready md ops listed).contains i = true)
    (hQ : ∀ c a w, Q (.panic c) (a.put d v) w → Q (.panic c) a w) (hy : YieldsIf P ops S oi v a) (hS : S w)
    (h : wpAnyH P md ops Q S fuel (listed.setIfInBounds i true) (a.put d v) w) : wpAnyH P md ops Q S (fuel + 1) listed a w := by
  subst hd
  exact wpAnyH_take hi hs hf hr hQ hy hS h

end Go.Proofs.Ytfeipfemknnhhaa

namespace Go.Proofs.Ytfeipfemknnhhaa
open Go.RowKit

/-- How many words a width needs. -/
def sizeE (width : Int) : Nat := ((near width + 63) / 64).toNat
theorem sizeE_le (width : Int) : sizeE width ≤ 16 := by have := near_bd width; unfold sizeE; omega
theorem sizeE_int (width : Int) : (near width + 63) / 64 = (sizeE width : Int) := by have := near_bd width; unfold sizeE; omega
theorem near_near (n : Int) : near (near n) = near n := by unfold near; omega
/-- A set with a number more. -/
def withE (a : List Nat) (m : Nat) : List Nat := a.set (m / 64) (wAt a (m / 64) ||| 2 ^ (m % 64))
def ofStep (width : Int) (a : List Nat) (n : Int) : List Nat := if 0 ≤ n ∧ n < near width then withE a n.toNat else a
def ofE (width : Int) (l : List Int) : List Nat := l.foldl (ofStep width) (List.replicate (sizeE width) 0)
theorem withE_len (a : List Nat) (m : Nat) : (withE a m).length = a.length := by simp [withE]
theorem ofStep_len (width : Int) (a : List Nat) (n : Int) : (ofStep width a n).length = a.length := by
  unfold ofStep; split
  · exact withE_len _ _
  · rfl
theorem withE_lt {a : List Nat} (h : ∀ z ∈ a, z < 18446744073709551616) (m : Nat) : ∀ z ∈ withE a m, z < 18446744073709551616 := fun z hz => by
  rcases List.mem_or_eq_of_mem_set hz with hz | rfl
  · exact h z hz
  · exact orN_lt _ _ (wAt_lt h _) (Nat.lt_of_le_of_lt (Nat.pow_le_pow_right (by decide) (show m % 64 ≤ 63 by omega)) (by decide))
theorem ofStep_lt {a : List Nat} (h : ∀ z ∈ a, z < 18446744073709551616) (width n : Int) : ∀ z ∈ ofStep width a n, z < 18446744073709551616 := by
  unfold ofStep; split
  · exact withE_lt h _
  · exact h
/-- The first k of the list's numbers. -/
def ofK (width : Int) (l : List Int) (k : Nat) : List Nat := (l.take k).foldl (ofStep width) (List.replicate (sizeE width) 0)
theorem ofK_succ (width : Int) (l : List Int) (k : Nat) (h : k < l.length) : ofK width l (k + 1) = ofStep width (ofK width l k) (l[k]?.getD 0) := by
  unfold ofK
  rw [List.take_add_one, List.foldl_append, List.getElem?_eq_getElem h]
  rfl
theorem ofK_len (width : Int) (l : List Int) (k : Nat) : (ofK width l k).length = sizeE width := by
  unfold ofK
  generalize l.take k = m
  have : ∀ a : List Nat, (m.foldl (ofStep width) a).length = a.length := by
    induction m with
    | nil => intro a; rfl
    | cons x m ih => intro a; rw [List.foldl_cons, ih, ofStep_len]
  rw [this, List.length_replicate]
theorem ofK_lt (width : Int) (l : List Int) (k : Nat) : ∀ z ∈ ofK width l k, z < 18446744073709551616 := by
  unfold ofK
  generalize l.take k = m
  have : ∀ a : List Nat, (∀ z ∈ a, z < 18446744073709551616) → ∀ z ∈ m.foldl (ofStep width) a, z < 18446744073709551616 := by
    induction m with
    | nil => intro a h; exact h
    | cons x m ih => intro a h; exact ih _ (ofStep_lt h _ _)
  exact this _ fun z hz => by rw [List.eq_of_mem_replicate hz]; decide
/-- A set's words as cells. -/
def u64s (a : List Nat) : List Value := a.map fun z => .int .u64 (z : Nat)
theorem u64s_at (a : List Nat) (i : Nat) (h : i < a.length) : (u64s a)[i]? = some (.int .u64 (wAt a i : Nat)) := by
  unfold u64s wAt
  rw [List.getElem?_map, List.getElem?_eq_getElem h]
  rfl
theorem u64s_zero (n : Nat) : u64s (List.replicate n 0) = List.replicate n (.int .u64 0) := by simp [u64s]
theorem u64s_set (a : List Nat) (i z : Nat) : u64s (a.set i z) = (u64s a).set i (.int .u64 (z : Nat)) := by simp [u64s, List.map_set]
theorem Bk.ws {w : World} {g : Nat} {a : List Nat} {n : Nat} (h : Bk w g 41 (u64s a)) (hl : a.length = n) (hz : ∀ z ∈ a, z < 18446744073709551616) : Ws w (.slice (some ⟨g, 0, none⟩) n n) a := by
  subst hl
  refine ⟨hz, .inr ⟨⟨g, 0, none⟩, _, rfl, fun i hi => ?_⟩⟩
  rw [show (⟨g, 0, none⟩ : Addr).add i = ⟨g, i, none⟩ from by unfold Addr.add; split <;> simp_all, h.cell, u64s_at _ _ hi]
  rfl
theorem bit_word (m : Nat) (h : m < 64) : ((2 ^ m : Nat) : Int) < 18446744073709551616 := by
  have h1 : 2 ^ m ≤ 2 ^ 63 := Nat.pow_le_pow_right (by decide) (by omega)
  omega

theorem bor (a b : Nat) (ha : a < 18446744073709551616) (hb : b < 18446744073709551616) : bits .or .u64 (a : Int) (b : Int) = ((a ||| b : Nat) : Int) :=
  (bits_nat .u64 64 (by decide) wraps_u64 a b (by omega) (by omega)).2
theorem or_bit (z m : Nat) (hz : z < 18446744073709551616) (hm : m < 64) : bits BinOp.or IntKind.u64 (z : Int) (IntKind.u64.wrap (2 ^ m)) = ((z ||| 2 ^ m : Nat) : Int) := by
  have h := bit_word m hm
  have e : (2 : Int) ^ m = ((2 ^ m : Nat) : Int) := by rw [Int.natCast_pow]; rfl
  rw [e, wn _ (by omega)]
  exact bor _ _ hz (by omega)
theorem Bk.withE {w : World} {g : Nat} {a : List Nat} (h : Bk w g 41 (u64s a)) (m : Nat) : Bk (w.setCell ⟨g, m / 64, none⟩ (.int .u64 ((wAt a (m / 64) ||| 2 ^ (m % 64) : Nat) : Int))).drew g 41 (u64s (withE a m)) := by
  have := h.set (m / 64) (.int .u64 ((wAt a (m / 64) ||| 2 ^ (m % 64) : Nat) : Int))
  rw [← u64s_set] at this
  exact this.drew


/-! ### Full -/
def fullK (n k : Nat) : List Nat := (List.range n).map fun i => if i < k then 18446744073709551615 else 0
theorem fullK_zero (n : Nat) : fullK n 0 = List.replicate n 0 := by
  refine List.ext_getElem (by simp [fullK]) fun i h1 h2 => ?_
  simp [fullK]
theorem fullK_len (n k : Nat) : (fullK n k).length = n := by simp [fullK]
theorem fullK_step (n k : Nat) : (fullK n k).set k 18446744073709551615 = fullK n (k + 1) := by
  refine List.ext_getElem (by simp [fullK]) fun i h1 h2 => ?_
  rw [List.getElem_set]
  by_cases hk : k = i
  · subst hk; simp [fullK]
  · rw [if_neg hk]
    simp only [fullK, List.getElem_map, List.getElem_range]
    by_cases hik : i < k
    · rw [if_pos hik, if_pos (by omega)]
    · rw [if_neg hik, if_neg (by omega)]
theorem fullK_lt (n k : Nat) : ∀ z ∈ fullK n k, z < 18446744073709551616 := fun z hz => by
  obtain ⟨i, _, rfl⟩ := List.mem_map.1 hz
  split <;> decide
/-- All numbers below a width. -/
def fullE (width : Int) : List Nat :=
  if 0 < near width % 64 then (fullK (sizeE width) (sizeE width)).set (sizeE width - 1) (2 ^ (near width % 64).toNat - 1) else fullK (sizeE width) (sizeE width)
theorem fullE_len (width : Int) : (fullE width).length = sizeE width := by
  unfold fullE; split
  · rw [List.length_set, fullK_len]
  · exact fullK_len _ _
theorem fullE_lt (width : Int) : ∀ z ∈ fullE width, z < 18446744073709551616 := by
  unfold fullE; split
  · intro z hz
    rcases List.mem_or_eq_of_mem_set hz with hz | rfl
    · exact fullK_lt _ _ z hz
    · have := bit_word (near width % 64).toNat (by omega)
      omega
  · exact fullK_lt _ _

set_option maxHeartbeats 3200000 in
set_option maxRecDepth 100000 in
theorem full_any (width : Int) (w : World) :
    Calls Try.prog 84 #[.int .i64 width] w fun e w' => ∃ u, e = .returned u ∧ Ws w' u (fullE width) ∧ Below w.heap.size w w' := by
  have hs := sizeE_le width
  have hmk := make_u64 (sizeE width) ((near (near width) + 63) / 64) (by rw [near_near, sizeE_int]) (by omega)
  go_enter Try.func84, Try.ntmps84
  go_wp2_with (first | (go_at_call 108; refine (nearest_any _ _).mono ?_; rintro e w1 ⟨rfl, hw1⟩; subst w1) | (go_at_call 77; refine (size_any _ _).mono ?_; rintro e w1 ⟨rfl, hw1⟩; subst w1))
  clear hmk
  go_loopw [13] (fun i wr => ∃ k : Nat, k ≤ sizeE width ∧ i = .int .i64 k ∧ Bk wr w.heap.size 41 (u64s (fullK (sizeE width) k)) ∧ Below w.heap.size w wr)
    (fun i _ => sizeE width - (intOf i).toNat)
  case atStart => exact ⟨0, Nat.zero_le _, rfl, by rw [fullK_zero, u64s_zero]; exact Bk.new _ _ _, (Below.refl _ _).alloc (Nat.le_refl _) _⟩
  case round =>
    obtain ⟨k, hk, rfl, hb, hB⟩ := hrel
    have HK := Lib.hid hb
    have HB := Lib.hid hB
    clear hb hB
    by_cases hlt : k < sizeE width
    · have hcell : wr.cell? ⟨w.heap.size, k, none⟩ = some (.int .u64 (wAt (fullK (sizeE width) k) k : Nat)) := by
        rw [HK.out.cell, u64s_at _ _ (by rw [fullK_len]; exact hlt)]
      have hfree := HK.out.free k
      have HBk := Lib.hid (HK.out.set k (.int .u64 18446744073709551615))
      have e1 := u64s_set (fullK (sizeE width) k) k 18446744073709551615
      rw [fullK_step] at e1
      rw [show (Value.int .u64 18446744073709551615) = Value.int .u64 ((18446744073709551615 : Nat) : Int) from rfl, ← e1] at HBk
      clear e1
      generalize wAt (fullK (sizeE width) k) k = z at *
      go_wp2_with fail
      go_roundw
      case rel => exact ⟨k + 1, by omega, by go_num, HBk.out, HB.out.setCell (p := ⟨w.heap.size, k, none⟩) (Nat.le_refl _) _⟩
      case measure => simp [intOf]; omega
    · obtain rfl : k = sizeE width := by omega
      have HN := Lib.hid (near_bd width)
      have HSZ := Lib.hid (sizeE_int width)
      obtain ⟨W, hW⟩ : ∃ W : Nat, near width = W := ⟨(near width).toNat, by have := near_bd width; omega⟩
      have HF0 := Lib.hid (show ¬ 0 < W % 64 → fullE width = fullK (sizeE width) (sizeE width) from fun h => by unfold fullE; rw [if_neg (by omega)])
      have HF1 := Lib.hid (show 0 < W % 64 → fullE width = (fullK (sizeE width) (sizeE width)).set (sizeE width - 1) (2 ^ (W % 64) - 1) from fun h => by
        unfold fullE; rw [if_pos (by omega)]; rw [show (near width % 64).toNat = W % 64 by omega])
      have HL := Lib.hid (fullE_len width)
      have HLt := Lib.hid (fullE_lt width)
      rw [hW] at HN HSZ ⊢
      obtain ⟨fw, hfw⟩ : ∃ fw, fw = fullE width := ⟨_, rfl⟩
      rw [← hfw] at HF0 HF1 HL HLt
      have HFW := Lib.hid hfw
      clear hfw
      generalize sizeE width = S at *
      have hmod : ((W : Int)).tmod 64 = ((W % 64 : Nat) : Int) := by rw [Int.tmod_eq_emod_of_nonneg (by omega)]; omega
      by_cases hr : 0 < W % 64
      · obtain ⟨S, rfl⟩ : ∃ s, S = s + 1 := ⟨S - 1, by have := HSZ.out; omega⟩
        have hr2 : (0 : Int) < ((W % 64 : Nat) : Int) := by omega
        have hr3 : W % 64 < 64 := by omega
        have hcell : wr.cell? ⟨w.heap.size, S, none⟩ = some (.int .u64 (wAt (fullK (S + 1) (S + 1)) S : Nat)) := by
          rw [HK.out.cell, u64s_at _ _ (by rw [fullK_len]; omega)]
        have hfree := HK.out.free S
        have HBk := Lib.hid (HK.out.set S (.int .u64 ((2 ^ (W % 64) - 1 : Nat) : Int)))
        rw [← u64s_set, show (fullK (S + 1) (S + 1)).set S (2 ^ (W % 64) - 1) = fw from (HF1.out hr).symm] at HBk
        generalize wAt (fullK (S + 1) (S + 1)) S = z at *
        have hb2 := bit_word (W % 64) hr3
        have hp1 : 1 ≤ 2 ^ (W % 64) := Nat.one_le_two_pow
        have e1 : IntKind.u64.wrap (2 ^ (W % 64)) = ((2 ^ (W % 64) : Nat) : Int) := by
          rw [show (2 : Int) ^ (W % 64) = ((2 ^ (W % 64) : Nat) : Int) by rw [Int.natCast_pow]; rfl]
          exact wn _ (by omega)
        have e2 : IntKind.u64.wrap (IntKind.u64.wrap (2 ^ (W % 64)) - 1) = ((2 ^ (W % 64) - 1 : Nat) : Int) := by
          rw [e1, show ((2 ^ (W % 64) : Nat) : Int) - 1 = ((2 ^ (W % 64) - 1 : Nat) : Int) by omega]
          exact wn _ (by omega)
        have HE2 := Lib.hid e2
        clear e1 e2 hb2 hp1
        go_wp2_with fail
        go_ret
        refine ⟨_, rfl, ?_, HB.out.setCell (p := ⟨w.heap.size, S, none⟩) (Nat.le_refl _) _⟩
        rw [HE2.out, ← HFW.out]
        exact HBk.out.ws HL.out HLt.out
      · have hr2 : ((W % 64 : Nat) : Int) = 0 := by omega
        have hF := HF0.out hr
        rw [← hF] at HK
        clear hF
        go_wp2_with fail
        go_ret
        refine ⟨_, rfl, ?_, HB.out⟩
        rw [← HFW.out]
        exact HK.out.ws HL.out HLt.out

end Go.Proofs.Ytfeipfemknnhhaa

namespace Go.Proofs.Ytfeipfemknnhhaa
open Go.RowKit

theorem hasE_at (zs : List Nat) (i j : Nat) (hj : j < 64) : hasE zs ((64 * i + j : Nat) : Int) = (wAt zs i).testBit j := by
  have e1 : ((64 * i + j : Nat) : Int) / 64 = (i : Int) := by omega
  have e2 : ((64 * i + j : Nat) : Int) % 64 = (j : Int) := by omega
  unfold hasE
  rw [e1, e2, Int.toNat_natCast, Int.toNat_natCast]
  have h0 : decide (0 ≤ ((64 * i + j : Nat) : Int)) = true := by simp; omega
  rw [h0, Bool.true_and]
  by_cases hi : i < zs.length
  · have : decide ((i : Int) < zs.length) = true := by simpa using hi
    rw [this, Bool.true_and]; rfl
  · have : decide ((i : Int) < zs.length) = false := by simpa using hi
    rw [this, Bool.false_and]
    unfold wAt
    rw [List.getElem?_eq_none (by omega)]
    simp
theorem wAt_set_self (a : List Nat) (k z : Nat) (h : k < a.length) : wAt (a.set k z) k = z := by
  unfold wAt; rw [List.getElem?_set_self h]; rfl
theorem wAt_set_ne (a : List Nat) (k i z : Nat) (h : ¬ i = k) : wAt (a.set k z) i = wAt a i := by
  unfold wAt; rw [List.getElem?_set_ne (fun e => h e.symm)]
theorem withE_at (a : List Nat) (m i : Nat) (hm : m / 64 < a.length) : wAt (withE a m) i = if i = m / 64 then wAt a i ||| 2 ^ (m % 64) else wAt a i := by
  unfold withE
  by_cases h : i = m / 64
  · subst h
    rw [if_pos rfl, wAt_set_self _ _ _ hm]
  · rw [if_neg h, wAt_set_ne _ _ _ _ h]
theorem ext_words {a b : List Nat} (hl : a.length = b.length) (ha : ∀ z ∈ a, z < 18446744073709551616) (hb : ∀ z ∈ b, z < 18446744073709551616)
    (h : ∀ i, i < a.length → ∀ j, j < 64 → (wAt a i).testBit j = (wAt b i).testBit j) : a = b := by
  refine List.ext_getElem hl fun i h1 h2 => ?_
  have e : wAt a i = wAt b i := by
    refine Nat.eq_of_testBit_eq fun j => ?_
    by_cases hj : j < 64
    · exact h i h1 j hj
    · have big : ∀ z : Nat, z < 18446744073709551616 → z.testBit j = false := fun z hz => Nat.testBit_lt_two_pow (Nat.lt_of_lt_of_le hz (Nat.pow_le_pow_right (n := 2) (by decide) (show 64 ≤ j by omega)))
      rw [big _ (wAt_lt ha i), big _ (wAt_lt hb i)]
  unfold wAt at e
  rw [List.getElem?_eq_getElem h1, List.getElem?_eq_getElem h2] at e
  exact e

/-- Two sets number by number: the first k numbers. -/
def bothF (c : Bool → Bool → Bool) (xs ys : List Nat) : Nat → List Nat
  | 0 => List.replicate (max xs.length ys.length) 0
  | k + 1 => if c (hasE xs (k : Nat)) (hasE ys (k : Nat)) = true then withE (bothF c xs ys k) k else bothF c xs ys k
theorem bothF_len (c : Bool → Bool → Bool) (xs ys : List Nat) (k : Nat) : (bothF c xs ys k).length = max xs.length ys.length := by
  induction k with
  | zero => simp [bothF]
  | succ k ih =>
    simp only [bothF]
    split
    · rw [withE_len, ih]
    · exact ih
theorem bothF_lt (c : Bool → Bool → Bool) (xs ys : List Nat) (k : Nat) : ∀ z ∈ bothF c xs ys k, z < 18446744073709551616 := by
  induction k with
  | zero => intro z hz; rw [List.eq_of_mem_replicate hz]; decide
  | succ k ih =>
    simp only [bothF]
    split
    · exact withE_lt ih k
    · exact ih
theorem bothF_bit (c : Bool → Bool → Bool) (xs ys : List Nat) (k : Nat) (hk : k ≤ 64 * max xs.length ys.length) : ∀ i j, i < max xs.length ys.length → j < 64 →
    (wAt (bothF c xs ys k) i).testBit j = (decide (64 * i + j < k) && c (hasE xs ((64 * i + j : Nat) : Int)) (hasE ys ((64 * i + j : Nat) : Int))) := by
  induction k with
  | zero =>
    intro i j hi hj
    have : wAt (bothF c xs ys 0) i = 0 := by
      unfold wAt bothF
      rw [List.getElem?_replicate]
      split <;> rfl
    rw [this]
    simp
  | succ k ih =>
    intro i j hi hj
    have h := ih (by omega) i j hi hj
    simp only [bothF]
    by_cases e : k = 64 * i + j
    · subst e
      have hd : decide (64 * i + j < 64 * i + j + 1) = true := by simp
      have hd0 : decide (64 * i + j < 64 * i + j) = false := by simp
      rw [hd0, Bool.false_and] at h
      rw [hd, Bool.true_and]
      split
      · next hc =>
        rw [withE_at _ _ _ (by rw [bothF_len]; omega), if_pos (by omega), Nat.testBit_or, h, hc, Bool.false_or, show (64 * i + j) % 64 = j by omega, Nat.testBit_two_pow_self]
      · next hc =>
        rw [h]
        simpa using hc
    · have hd : decide (64 * i + j < k + 1) = decide (64 * i + j < k) := by
        rw [decide_eq_decide]; omega
      rw [hd]
      split
      · rw [withE_at _ _ _ (by rw [bothF_len]; omega)]
        by_cases hi2 : i = k / 64
        · rw [if_pos hi2, Nat.testBit_or, h, Nat.testBit_two_pow_of_ne (by omega), Bool.or_false]
        · rw [if_neg hi2, h]
      · exact h
theorem bothF_all (c : Bool → Bool → Bool) (f : Nat → Nat → Nat) (hf : ∀ x y, x < 18446744073709551616 → y < 18446744073709551616 → f x y < 18446744073709551616)
    (hc : ∀ x y j, x < 18446744073709551616 → y < 18446744073709551616 → (f x y).testBit j = c (x.testBit j) (y.testBit j)) (xs ys : List Nat) (hx : ∀ z ∈ xs, z < 18446744073709551616) (hy : ∀ z ∈ ys, z < 18446744073709551616) :
    bothF c xs ys (64 * max xs.length ys.length) = bothE f xs ys := by
  refine ext_words (by rw [bothF_len, bothE_len]) (bothF_lt _ _ _ _) (bothE_lt hf hx hy) fun i hi j hj => ?_
  rw [bothF_len] at hi
  rw [bothF_bit c xs ys _ (Nat.le_refl _) i j hi hj, hasE_at _ _ _ hj, hasE_at _ _ _ hj]
  have hd : decide (64 * i + j < 64 * max xs.length ys.length) = true := by simp only [decide_eq_true_eq]; omega
  have e : wAt (bothE f xs ys) i = f (wAt xs i) (wAt ys i) := by
    unfold bothE
    rw [wAt, List.getElem?_map, List.getElem?_range hi]
    rfl
  rw [hd, Bool.true_and, e, hc _ _ _ (wAt_lt hx i) (wAt_lt hy i)]
theorem or_bits (x y j : Nat) : (orN x y).testBit j = (x.testBit j || y.testBit j) := Nat.testBit_or _ _ _
theorem and_bits (x y j : Nat) : (andN x y).testBit j = (x.testBit j && y.testBit j) := Nat.testBit_and _ _ _

/-- A set's numbers, looked for one by one below n. -/
def refK (zs : List Nat) (n : Nat) : List Nat := (List.range n).filter fun m => hasE zs (m : Nat)
theorem refK_succ (zs : List Nat) (n : Nat) : refK zs (n + 1) = if hasE zs (n : Nat) = true then refK zs n ++ [n] else refK zs n := by
  unfold refK
  rw [List.range_succ, List.filter_append]
  split
  · next h => simp [h]
  · next h => simp [h]
theorem refK_len (zs : List Nat) (n : Nat) : (refK zs n).length ≤ n := by
  have := List.length_filter_le (fun m : Nat => hasE zs (m : Nat)) (List.range n)
  simpa [refK] using this
theorem bl_filter (j : Nat) : ∀ i x, bl j i x = (List.range' i j).filter fun n => x.testBit (n - i) := by
  induction j with
  | zero => intro i x; rfl
  | succ j ih =>
    intro i x
    rw [List.range'_succ, List.filter_cons, bl, ih (i + 1) (x / 2)]
    have e : (List.range' (i + 1) j).filter (fun n => (x / 2).testBit (n - (i + 1))) = (List.range' (i + 1) j).filter (fun n => x.testBit (n - i)) := by
      refine List.filter_congr fun n hn => ?_
      have h1 := (List.mem_range'_1.1 hn).1
      rw [show n - i = (n - (i + 1)) + 1 by omega, Nat.testBit_succ]
    rw [e, Nat.sub_self, Nat.testBit_zero]
    by_cases h : x % 2 = 1
    · simp [h]
    · simp [h]
theorem refK_word (zs : List Nat) (k : Nat) : refK zs (64 * k) = setK zs k := by
  induction k with
  | zero => simp [refK, setK]
  | succ k ih =>
    rw [setK_succ, ← ih, bl_filter]
    unfold refK
    rw [show 64 * (k + 1) = 64 * k + 64 by omega, List.range_add, List.filter_append, List.range'_eq_map_range]
    congr 1
    refine (List.filter_congr fun n hn => ?_)
    obtain ⟨m, hm, rfl⟩ := List.mem_map.1 hn
    have hm := List.mem_range.1 hm
    rw [hasE_at zs k m hm, show 64 * k + m - 64 * k = m by omega]

/-! ### Full, Fits -/
theorem fullE_near (width : Int) : fullE (near width) = fullE width := by unfold fullE sizeE; rw [near_near]
theorem fullE_bit (width : Int) (i j : Nat) (hi : i < sizeE width) (hj : j < 64) : (wAt (fullE width) i).testBit j = decide (((64 * i + j : Nat) : Int) < near width) := by
  have hn := near_bd width
  have hs := sizeE_int width
  have hone : (18446744073709551615 : Nat).testBit j = true := by
    rw [show (18446744073709551615 : Nat) = 2 ^ 64 - 1 by decide, Nat.testBit_two_pow_sub_one]
    simpa using hj
  have hfk : wAt (fullK (sizeE width) (sizeE width)) i = 18446744073709551615 := by
    unfold wAt fullK
    rw [List.getElem?_map, List.getElem?_range hi]
    simp [hi]
  unfold fullE
  split
  · by_cases h : i = sizeE width - 1
    · have e : wAt ((fullK (sizeE width) (sizeE width)).set (sizeE width - 1) (2 ^ (near width % 64).toNat - 1)) i = 2 ^ (near width % 64).toNat - 1 := by
        rw [← h, wAt, List.getElem?_set_self (by rw [fullK_len]; exact hi)]
        rfl
      rw [e, Nat.testBit_two_pow_sub_one]
      rw [decide_eq_decide]
      omega
    · have e : wAt ((fullK (sizeE width) (sizeE width)).set (sizeE width - 1) (2 ^ (near width % 64).toNat - 1)) i = wAt (fullK (sizeE width) (sizeE width)) i := by
        rw [wAt, List.getElem?_set_ne (fun e => h e.symm)]
        rfl
      rw [e, hfk, hone]
      symm
      rw [decide_eq_true_eq]
      omega
  · rw [hfk, hone]
    symm
    rw [decide_eq_true_eq]
    omega
/-- Whether a set is one of a width: number by number. -/
def fitsE (zs : List Nat) (width : Int) : Bool := decide (zs.length = sizeE width) && decide (∀ n, n < 64 * zs.length → near width ≤ (n : Int) → hasE zs (n : Nat) = false)
theorem fits_eq (zs : List Nat) (width : Int) (hz : ∀ z ∈ zs, z < 18446744073709551616) (hl : zs.length = sizeE width) : subE zs (fullE width) = decide (∀ n, n < 64 * zs.length → near width ≤ (n : Int) → hasE zs (n : Nat) = false) := by
  rw [Bool.eq_iff_iff, subE_iff hz (fullE_lt width), decide_eq_true_eq]
  constructor
  · intro h n hn hw
    have h1 := (sub_iff _ _ (wAt_lt hz (n / 64)) (wAt_lt (fullE_lt width) (n / 64))).1 (h (n / 64)) (n % 64)
    rw [fullE_bit width (n / 64) (n % 64) (by omega) (by omega), ← hasE_at _ _ _ (by omega), show 64 * (n / 64) + n % 64 = n by omega] at h1
    cases hh : hasE zs (n : Nat) with
    | false => rfl
    | true =>
      have := h1 hh
      rw [decide_eq_true_eq] at this
      omega
  · intro h i
    refine (sub_iff _ _ (wAt_lt hz i) (wAt_lt (fullE_lt width) i)).2 fun j hj => ?_
    by_cases hi : i < zs.length
    · by_cases hj64 : j < 64
      · rw [fullE_bit width i j (by omega) hj64, decide_eq_true_eq]
        rcases Int.lt_or_le ((64 * i + j : Nat) : Int) (near width) with h' | h'
        · exact h'
        · have h2 := h (64 * i + j) (by omega) h'
          rw [hasE_at _ _ _ hj64, hj] at h2
          cases h2
      · exfalso
        have : (wAt zs i).testBit j = false := Nat.testBit_lt_two_pow (Nat.lt_of_lt_of_le (wAt_lt hz i) (Nat.pow_le_pow_right (n := 2) (by decide) (show 64 ≤ j by omega)))
        rw [hj] at this
        cases this
    · exfalso
      have : wAt zs i = 0 := by unfold wAt; rw [List.getElem?_eq_none (by omega)]; rfl
      rw [this, Nat.zero_testBit] at hj
      cases hj
theorem full_count : (∀ W : Fin 201, lenE (fullE (W.val : Int)) = W.val) ∧ lenE (fullE 1024) = 1024 := by decide +kernel
theorem full_len (width : Int) (h : ¬ (200 < width ∧ width < 1024)) : ((lenE (fullE width) : Nat) : Int) = near width := by
  rw [← fullE_near]
  have hn := near_bd width
  by_cases h2 : near width ≤ 200
  · have := full_count.1 ⟨(near width).toNat, by omega⟩
    have e : (((near width).toNat : Nat) : Int) = near width := by omega
    simp only [e] at this
    rw [this, e]
  · have e : near width = 1024 := by unfold near at *; omega
    rw [e, full_count.2]; rfl

end Go.Proofs.Ytfeipfemknnhhaa

namespace Go.Proofs.Ytfeipfemknnhhaa
open Go.RowKit

/-- The number from -2^15 to 2^15 - 1 that is n modulo 2^16. -/
def wr (n : Int) : Int := (n + 32768) % 65536 - 32768
theorem wr_bd (n : Int) : -32768 ≤ wr n ∧ wr n ≤ 32767 := by unfold wr; omega
theorem wr_i16 (n : Int) : IntKind.i16.wrap n = wr n := by
  unfold IntKind.wrap wr; simp [IntKind.bits, IntKind.signed]; split <;> omega

theorem tmod_bd (n : Int) : -65535 ≤ n.tmod 65536 ∧ n.tmod 65536 ≤ 65535 ∧ ∃ q : Int, n = 65536 * q + n.tmod 65536 := by
  have h1 := Int.tmod_lt_of_pos n (show (0 : Int) < 65536 by omega)
  have h2 := Int.lt_tmod_of_pos n (show (0 : Int) < 65536 by omega)
  have h3 := Int.tmod_add_mul_tdiv n 65536
  exact ⟨by omega, by omega, n.tdiv 65536, by omega⟩

theorem rwrap_eq (n : Int) : wrap64 ((wrap64 (n.tmod 65536 + 98304)).tmod 65536 - 32768) = wr n := by
  obtain ⟨h1, h2, q, h3⟩ := tmod_bd n
  generalize n.tmod 65536 = t at *
  rw [IntWalk.wrap64_in (t + 98304) ⟨by omega, by omega⟩]
  obtain ⟨h4, h5, r, h6⟩ := tmod_bd (t + 98304)
  have h7 : (t + 98304).tmod 65536 = (t + 98304) % 65536 := Int.tmod_eq_emod_of_nonneg (by omega)
  rw [h7, IntWalk.wrap64_in _ ⟨by omega, by omega⟩]
  unfold wr
  omega

theorem wrap_any (n : Int) (w : World) :
    Calls Try.prog 159 #[.int .i64 n] w fun e w' => e = .returned (.int .i64 (wr n)) ∧ w = w' := by
  have hb := wr_bd n
  go_enter Try.func159, Try.ntmps159
  go_wp2
  go_ret
  exact ⟨ret_int (by rw [wr_i16, IntWalk.wrap64_in _ ⟨by omega, by omega⟩]), rfl⟩

theorem of_any (a b : Int) (w : World) :
    Calls Try.prog 151 #[.int .i64 a, .int .i64 b] w fun e w' => e = .returned (.agg #[.int .i64 (wr a), .int .i64 (wr b)]) ∧ Below w.heap.size w w' := by
  go_enter Try.func151, Try.ntmps151
  go_wp2_with (go_at_call 159; refine (wrap_any _ _).mono ?_; rintro e w' ⟨rfl, rfl⟩)
  exact bodyPost_ret (v := .agg #[.int .i64 (wr a), .int .i64 (wr b)]) (by simp [results, Try.results151, go_sem]) rfl ⟨rfl, (Below.refl _ _).alloc (Nat.le_refl _) _⟩

end Go.Proofs.Ytfeipfemknnhhaa

namespace Go.Proofs.Ytfeipfemknnhhaa
open Go.RowKit

/-- A number as 32 bits. -/
def word (a b : Int) : Int := a % 65536 + b % 65536 * 65536
theorem word_bd (a b : Int) : 0 ≤ word a b ∧ word a b < 4294967296 := by unfold word; omega
theorem u16_eq (x : Int) : IntKind.u16.wrap x = x % 65536 := by
  unfold IntKind.wrap; simp [IntKind.bits, IntKind.signed]
theorem wr_mod (x : Int) : wr (x % 65536) = wr x := by unfold wr; omega

theorem word_any (a b : Int) (w : World) :
    Calls Try.prog 135 #[.agg #[.int .i64 a, .int .i64 b]] w fun e w' => e = .returned (.int .u64 (word a b)) ∧ Below w.heap.size w w' := by
  go_enter Try.func135, Try.ntmps135
  go_wp2
  go_ret
  refine ⟨ret_int ?_, (Below.refl _ _).alloc (Nat.le_refl _) _⟩
  rw [u16_eq, u16_eq, IntWalk.u64_in (a % 65536) ⟨by omega, by omega⟩, IntWalk.u64_in (b % 65536) ⟨by omega, by omega⟩, IntWalk.u64_in (b % 65536 * 65536) ⟨by omega, by omega⟩, IntWalk.u64_in _ ⟨by omega, by omega⟩]
  rfl

theorem unword_big (x : Int) (w : World) (h : 4294967296 ≤ x) :
    Calls Try.prog 133 #[.int .u64 x] w fun e w' => e = .returned (.tuple #[.agg #[.int .i64 0, .int .i64 0], .bool false]) ∧ Below w.heap.size w w' := by
  go_enter Try.func133, Try.ntmps133
  go_wp2
  exact bodyPost_ret (v := .tuple #[.agg #[.int .i64 0, .int .i64 0], .bool false]) (by simp [results, Try.results133, go_sem]) rfl ⟨rfl, (Below.refl _ _).alloc (Nat.le_refl _) _⟩

/-- What an object of two cells that was just made holds, behind a call. -/
theorem pair_behind {w w1 : World} {u v : Value} {t : TypeId} (h : Below (w.alloc (.cells #[u, v] t)).heap.size (w.alloc (.cells #[u, v] t)) w1) :
    w1.cell? ⟨w.heap.size, 0, none⟩ = some u ∧ w1.cell? ⟨w.heap.size, 1, none⟩ = some v ∧ w1.frozen? ⟨w.heap.size, 0, none⟩ = false ∧ w1.frozen? ⟨w.heap.size, 1, none⟩ = false := by
  have c0 : (w.alloc (.cells #[u, v] t)).cell? ⟨w.heap.size, 0, none⟩ = some u := by go_simp
  have c1 : (w.alloc (.cells #[u, v] t)).cell? ⟨w.heap.size, 1, none⟩ = some v := by go_simp
  have f0 : (w.alloc (.cells #[u, v] t)).frozen? ⟨w.heap.size, 0, none⟩ = false := by go_simp
  have f1 : (w.alloc (.cells #[u, v] t)).frozen? ⟨w.heap.size, 1, none⟩ = false := by go_simp
  exact ⟨keepc c0 h, keepc c1 h, keepf c0 f0 h, keepf c1 f1 h⟩

theorem pair_end {w w1 : World} {o : Obj} (h : Below (w.alloc o).heap.size (w.alloc o) w1) (u v : Value) :
    Below w.heap.size w ((w1.setCell ⟨w.heap.size, 0, none⟩ u).setCell ⟨w.heap.size, 1, none⟩ v) :=
  ((((Below.refl w.heap.size w).alloc (Nat.le_refl _) o).trans (h.mono (by simp))).setCell (Nat.le_refl _) _).setCell (Nat.le_refl _) _

theorem unword_small (x : Int) (w : World) (h0 : 0 ≤ x) (h : x < 4294967296) :
    Calls Try.prog 133 #[.int .u64 x] w fun e w' => e = .returned (.tuple #[.agg #[.int .i64 (wr x), .int .i64 (wr (x / 65536))], .bool true]) ∧ Below w.heap.size w w' := by
  go_enter Try.func133, Try.ntmps133
  go_wp2_with fail
  refine (of_any _ _ _).mono ?_
  rintro e w1 ⟨rfl, hB⟩
  have e1 : wr (wrap64 (IntKind.u16.wrap x)) = wr x := by rw [u16_eq, IntWalk.wrap64_in _ ⟨by omega, by omega⟩, wr_mod]
  rw [e1]
  obtain ⟨k0, k1, f0, f1⟩ := pair_behind hB
  have HB := Lib.hid hB
  clear hB e1
  go_wp2_with fail
  exact bodyPost_ret (v := .tuple #[.agg #[.int .i64 (wr x), .int .i64 (wr (x / 65536))], .bool true]) (by simp [results, Try.results133, go_sem, k0, k1]) rfl ⟨rfl, pair_end HB.out _ _⟩

end Go.Proofs.Ytfeipfemknnhhaa

namespace Go.Proofs.Ytfeipfemknnhhaa
open Go.RowKit

/-- Is a word a number's? -/
def isn (x : Int) : Bool := decide (x % 4 = 2 ∧ x / 4 < 4294967296)
def numv (x : Int) : Int × Int := if isn x then (wr (x / 4), wr (x / 4 / 65536)) else (0, 0)
/-- The word that a word counts as. -/
def sou (x : Int) : Int := if isn x then x else if x = 0 then 0 else 1

theorem num_any (x : Int) (w : World) (h0 : 0 ≤ x ∧ x ≤ 18446744073709551615) :
    Calls Try.prog 111 #[.int .u64 x] w fun e w' => e = .returned (.tuple #[.agg #[.int .i64 (numv x).1, .int .i64 (numv x).2], .bool (isn x)]) ∧ Below w.heap.size w w' := by
  by_cases h1 : x % 4 = 2
  · by_cases h2 : x / 4 < 4294967296
    · have hi : isn x = true := by simp [isn, h1, h2]
      have hn : numv x = (wr (x / 4), wr (x / 4 / 65536)) := by simp [numv, hi]
      rw [hi, hn]
      clear hi hn
      have hm : (x % 4 != 2) = false := by simp [h1]
      have H1 := Lib.hid h1
      clear h1
      go_enter Try.func111, Try.ntmps111
      go_wp2_with fail
      refine (unword_small _ _ (by omega) h2).mono ?_
      rintro e w1 ⟨rfl, hB⟩
      obtain ⟨k0, k1, f0, f1⟩ := pair_behind hB
      have HB := Lib.hid hB
      clear hB hm h2
      go_wp2_with fail
      exact bodyPost_ret (v := .tuple #[.agg #[.int .i64 (wr (x / 4)), .int .i64 (wr (x / 4 / 65536))], .bool true]) (by simp [results, Try.results111, go_sem, k0, k1]) rfl ⟨rfl, pair_end HB.out _ _⟩
    · have hi : isn x = false := by simp [isn, h1]; omega
      have hn : numv x = (0, 0) := by simp [numv, hi]
      rw [hi, hn]
      clear hi hn
      have hm : (x % 4 != 2) = false := by simp [h1]
      have H1 := Lib.hid h1
      clear h1
      go_enter Try.func111, Try.ntmps111
      go_wp2_with fail
      refine (unword_big _ _ (by omega)).mono ?_
      rintro e w1 ⟨rfl, hB⟩
      obtain ⟨k0, k1, f0, f1⟩ := pair_behind hB
      have HB := Lib.hid hB
      clear hB hm h2
      go_wp2_with fail
      exact bodyPost_ret (v := .tuple #[.agg #[.int .i64 0, .int .i64 0], .bool false]) (by simp [results, Try.results111, go_sem, k0, k1]) rfl ⟨rfl, pair_end HB.out _ _⟩
  · have hi : isn x = false := by simp [isn, h1]
    have hn : numv x = (0, 0) := by simp [numv, hi]
    rw [hi, hn]
    clear hi hn
    have hm : (x % 4 != 2) = true := by simp [h1]
    have H1 := Lib.hid h1
    clear h1
    go_enter Try.func111, Try.ntmps111
    go_wp2_with fail
    exact bodyPost_ret (v := .tuple #[.agg #[.int .i64 0, .int .i64 0], .bool false]) (by simp [results, Try.results111, go_sem]) rfl ⟨rfl, (Below.refl _ _).alloc (Nat.le_refl _) _⟩

theorem is_any (x : Int) (w : World) (h0 : 0 ≤ x ∧ x ≤ 18446744073709551615) :
    Calls Try.prog 83 #[.int .u64 x] w fun e w' => e = .returned (.bool (isn x || decide (x = 0 ∨ x = 1))) ∧ Below w.heap.size w w' := by
  by_cases hi : isn x = true
  · have Hr := Lib.hid (show Ending.returned (.bool (isn x || decide (x = 0 ∨ x = 1))) = .returned (.bool true) by rw [hi]; rfl)
    go_enter Try.func83, Try.ntmps83
    go_wp2_with (go_at_call 111; refine (num_any _ _ h0).mono ?_; rintro e w1 ⟨rfl, hB⟩)
    go_ret
    exact ⟨Hr.out.symm, hB.alloc hB.size _⟩
  · have hi : isn x = false := by simpa using hi
    rcases (show x = 0 ∨ x = 1 ∨ (x ≠ 0 ∧ x ≠ 1) from by omega) with rfl | rfl | ⟨h1, h2⟩
    · go_enter Try.func83, Try.ntmps83
      go_wp2_with (go_at_call 111; refine (num_any _ _ h0).mono ?_; rintro e w1 ⟨rfl, hB⟩)
      go_ret
      exact ⟨by simp, hB.alloc hB.size _⟩
    · go_enter Try.func83, Try.ntmps83
      go_wp2_with (go_at_call 111; refine (num_any _ _ h0).mono ?_; rintro e w1 ⟨rfl, hB⟩)
      go_ret
      exact ⟨by simp, hB.alloc hB.size _⟩
    · have e1 : (x == 0) = false := by simpa using h1
      have e2 : (x == 1) = false := by simpa using h2
      have Hr := Lib.hid (show Ending.returned (.bool (isn x || decide (x = 0 ∨ x = 1))) = .returned (.bool false) by rw [hi]; simp [h1, h2])
      clear h1 h2
      go_enter Try.func83, Try.ntmps83
      go_wp2_with (go_at_call 111; refine (num_any _ _ h0).mono ?_; rintro e w1 ⟨rfl, hB⟩)
      go_ret
      exact ⟨Hr.out.symm, hB.alloc hB.size _⟩

theorem sound_any (x : Int) (w : World) (h0 : 0 ≤ x ∧ x ≤ 18446744073709551615) :
    Calls Try.prog 95 #[.int .u64 x] w fun e w' => e = .returned (.int .u64 (sou x)) ∧ Below w.heap.size w w' := by
  by_cases hi : (isn x || decide (x = 0 ∨ x = 1)) = true
  · have hs : sou x = x := by
      unfold sou
      by_cases h : isn x = true
      · simp [h]
      · simp [h] at hi ⊢; omega
    have Hs := Lib.hid hs
    clear hs
    go_enter Try.func95, Try.ntmps95
    go_wp2_with fail
    refine (is_any _ _ h0).mono ?_
    rintro e w1 ⟨rfl, hB⟩
    rw [hi]
    clear hi
    go_wp2_with fail
    go_ret
    exact ⟨ret_int Hs.out.symm, hB⟩
  · have hi : (isn x || decide (x = 0 ∨ x = 1)) = false := by simpa using hi
    have hs : sou x = 1 := by
      unfold sou
      have h : isn x = false := by simp at hi; exact hi.1
      simp [h] at hi ⊢; omega
    have Hs := Lib.hid hs
    clear hs
    go_enter Try.func95, Try.ntmps95
    go_wp2_with fail
    refine (is_any _ _ h0).mono ?_
    rintro e w1 ⟨rfl, hB⟩
    rw [hi]
    clear hi
    go_wp2_with fail
    go_ret
    exact ⟨ret_int Hs.out.symm, hB⟩

theorem cof_any (a b : Int) (w : World) :
    Calls Try.prog 119 #[.agg #[.int .i64 a, .int .i64 b]] w fun e w' => e = .returned (.int .u64 (2 + 4 * word a b)) ∧ Below w.heap.size w w' := by
  have hb := word_bd a b
  go_enter Try.func119, Try.ntmps119
  go_wp2_with (go_at_call 135; refine (word_any _ _ _).mono ?_; rintro e w1 ⟨rfl, hB⟩)
  go_ret
  exact ⟨ret_int (by omega), ((Below.refl w.heap.size w).alloc (Nat.le_refl _) _).trans (hB.mono (by simp))⟩

end Go.Proofs.Ytfeipfemknnhhaa

namespace Go.Proofs.Ytfeipfemknnhhaa
open Go.RowKit

theorem sou_bd (x : Int) (h : 0 ≤ x ∧ x ≤ 18446744073709551615) : 0 ≤ sou x ∧ sou x ≤ 18446744073709551615 := by
  unfold sou; split
  · exact h
  · split <;> omega
/-- The less known of two. -/
def cjoin (a b : Int) : Int := if sou a = sou b ∨ sou b = 0 then sou a else if sou a = 0 then sou b else 1
def crank (a : Int) : Int := if sou a = 0 then 0 else if sou a = 1 then 2 else 1

theorem join_any (a b : Int) (w : World) (ha : 0 ≤ a ∧ a ≤ 18446744073709551615) (hb : 0 ≤ b ∧ b ≤ 18446744073709551615) :
    Calls Try.prog 65 #[.int .u64 a, .int .u64 b] w fun e w' => e = .returned (.int .u64 (cjoin a b)) ∧ Below w.heap.size w w' := by
  have hj : ∀ v, cjoin a b = v → Ending.returned (.int .u64 (cjoin a b)) = .returned (.int .u64 v) := fun v h => by rw [h]
  have Hj := Lib.hid hj
  clear hj
  go_enter Try.func65, Try.ntmps65
  go_wp2_with fail
  refine (sound_any _ _ ha).mono ?_
  rintro e w1 ⟨rfl, hB⟩
  go_wp2_with fail
  refine (sound_any _ _ hb).mono ?_
  rintro e w2 ⟨rfl, hB2⟩
  have HB := Lib.hid (bel_then hB hB2)
  clear hB hB2
  have hc : ∀ v, (if sou a = sou b ∨ sou b = 0 then sou a else if sou a = 0 then sou b else 1) = v → cjoin a b = v := fun v h => h
  have Hc := Lib.hid hc
  clear hc
  generalize sou a = x at *
  generalize sou b = y at *
  clear ha hb
  by_cases h1 : x = y
  · subst h1
    go_wp2_with fail
    go_ret
    exact ⟨(Hj.out _ (Hc.out _ (by simp))).symm, HB.out⟩
  · have e1 : (x == y) = false := by simpa using h1
    by_cases h2 : y = 0
    · subst h2
      go_wp2_with fail
      go_ret
      exact ⟨(Hj.out _ (Hc.out _ (by simp))).symm, HB.out⟩
    · have e2 : (y == 0) = false := by simpa using h2
      by_cases h3 : x = 0
      · subst h3
        have H2 := Lib.hid h2
        have H1 := Lib.hid h1
        clear h1 h2
        go_wp2_with fail
        go_ret
        exact ⟨(Hj.out _ (Hc.out _ (by simp [H1.out, H2.out]))).symm, HB.out⟩
      · have e3 : (x == 0) = false := by simpa using h3
        have H2 := Lib.hid h2
        have H1 := Lib.hid h1
        have H3 := Lib.hid h3
        clear h1 h2 h3
        go_wp2_with fail
        go_ret
        exact ⟨(Hj.out _ (Hc.out _ (by simp [H1.out, H2.out, H3.out]))).symm, HB.out⟩

end Go.Proofs.Ytfeipfemknnhhaa

namespace Go.Proofs.Ytfeipfemknnhhaa
open Go.RowKit

/-! ### The order of words that are known -/
theorem sou_sou' (a : Int) : sou (sou a) = sou a := by
  by_cases h : isn a = true
  · have e : sou a = a := by unfold sou; rw [if_pos h]
    rw [e, e]
  · have e : sou a = if a = 0 then 0 else 1 := by unfold sou; rw [if_neg h]
    rw [e]
    split <;> decide
theorem sou_join' (a b : Int) : sou (cjoin a b) = cjoin a b := by
  unfold cjoin
  split
  · exact sou_sou' a
  · split
    · exact sou_sou' b
    · decide
theorem sou_bd' (x : Int) (h : 0 ≤ x ∧ x < 18446744073709551616) : 0 ≤ sou x ∧ sou x < 18446744073709551616 := by
  unfold sou; split
  · exact h
  · split <;> omega
theorem cjoin_bd' (a b : Int) (ha : 0 ≤ a ∧ a < 18446744073709551616) (hb : 0 ≤ b ∧ b < 18446744073709551616) : 0 ≤ cjoin a b ∧ cjoin a b < 18446744073709551616 := by
  have h1 := sou_bd' a ha
  have h2 := sou_bd' b hb
  unfold cjoin; split
  · exact h1
  · split
    · exact h2
    · omega
theorem cjoin_comm (a b : Int) : cjoin a b = cjoin b a := by
  unfold cjoin
  generalize sou a = x
  generalize sou b = y
  split <;> split <;> (try split) <;> (try split) <;> omega
theorem crank_bd (a : Int) : 0 ≤ crank a ∧ crank a ≤ 2 := by
  unfold crank; split
  · omega
  · split <;> omega

/-! ### Two words put together, of any kind -/
def wordE (what : Int) (x y : Nat) : Nat := if what = 1 then orN x y else if what = 2 then andN x y else if what = 3 then (cjoin (x : Int) (y : Int)).toNat else 0
theorem wordE_lt (what : Int) (x y : Nat) (hx : x < 18446744073709551616) (hy : y < 18446744073709551616) : wordE what x y < 18446744073709551616 := by
  unfold wordE
  split
  · exact orN_lt _ _ hx hy
  · split
    · exact andN_lt _ _ hx hy
    · split
      · have := cjoin_bd' x y (by omega) (by omega)
        omega
      · omega
theorem wordE_zero (what : Int) : wordE what 0 0 = 0 := by
  unfold wordE
  split
  · rfl
  · split
    · rfl
    · split
      · decide
      · rfl
/-- Which kinds and widths there are. -/
def isL (what width : Int) : Bool := decide (1 ≤ what ∧ what ≤ 3 ∧ 0 ≤ width ∧ width ≤ 1024)
def wordsN (what width : Int) : Nat := if isL what width then (if what = 3 then width.toNat else sizeE width) else 0
theorem wordsN_le (what width : Int) : wordsN what width ≤ 1024 := by
  unfold wordsN
  split
  · next h =>
    simp only [isL, decide_eq_true_eq] at h
    split
    · omega
    · have := sizeE_le width; omega
  · omega
theorem isL_near {what width : Int} (h : isL what width = true) : near width = width := by
  simp only [isL, decide_eq_true_eq] at h
  unfold near; omega
def souN (z : Nat) : Bool := sou (z : Int) == (z : Int)
/-- Whether words are a value. -/
def valueE (what width : Int) (a : List Nat) : Bool := isL what width && (decide (a.length = wordsN what width) && (if what = 3 then a.all souN else fitsE a width))
def bottomE (what width : Int) : List Nat := if what = 2 ∧ isL what width = true then fullE width else List.replicate (wordsN what width) 0
def topE (what width : Int) : List Nat := if what = 1 ∧ isL what width = true then fullE width else List.replicate (wordsN what width) (if what = 3 then 1 else 0)
def crankN (z : Nat) : Nat := (crank (z : Int)).toNat
def rankE (what width : Int) (a : List Nat) : Int := if what = 3 then ((a.map crankN).sum : Nat) else if what = 2 then width - (lenE a : Nat) else (lenE a : Nat)
def heightE (what width : Int) : Int := if isL what width then (if what = 3 then 2 * width else width) else 0
def joinE (what : Int) (a b : List Nat) : List Nat := bothE (wordE what) a b
/-- Below, of values of one length. -/
def belowE (what : Int) (a b : List Nat) : Bool := decide (joinE what a b = b)

theorem ext_at {a b : List Nat} (hl : a.length = b.length) (h : ∀ i, i < a.length → wAt a i = wAt b i) : a = b := by
  refine List.ext_getElem hl fun i h1 h2 => ?_
  have e := h i h1
  unfold wAt at e
  rw [List.getElem?_eq_getElem h1, List.getElem?_eq_getElem h2] at e
  exact e
theorem joinE_at (what : Int) (a b : List Nat) (i : Nat) : wAt (joinE what a b) i = wordE what (wAt a i) (wAt b i) := bothE_at _ (wordE_zero what) a b i
theorem joinE_len (what : Int) {a b : List Nat} (h : a.length = b.length) : (joinE what a b).length = a.length := by
  unfold joinE; rw [bothE_len]; omega
theorem belowE_iff (what : Int) {a b : List Nat} (h : a.length = b.length) : belowE what a b = true ↔ ∀ i, wordE what (wAt a i) (wAt b i) = wAt b i := by
  unfold belowE
  rw [decide_eq_true_eq]
  constructor
  · intro e i
    rw [← joinE_at, e]
  · intro e
    exact ext_at (by rw [joinE_len what h, h]) fun i _ => by rw [joinE_at, e i]
section
variable {what width : Int} {a b c : List Nat}
theorem value_is (h : valueE what width a = true) : isL what width = true := by
  unfold valueE at h; rw [Bool.and_eq_true] at h; exact h.1
theorem value_len (h : valueE what width a = true) : a.length = wordsN what width := by
  unfold valueE at h; rw [Bool.and_eq_true, Bool.and_eq_true] at h; exact of_decide_eq_true h.2.1
theorem value_sou (h : valueE what width a = true) (e : what = 3) (i : Nat) : sou (wAt a i : Nat) = (wAt a i : Nat) := by
  unfold valueE at h; rw [Bool.and_eq_true, Bool.and_eq_true] at h
  have h2 := h.2.2
  rw [if_pos e, List.all_eq_true] at h2
  unfold wAt
  by_cases hi : i < a.length
  · have := h2 _ (List.getElem_mem hi)
    unfold souN at this
    rw [beq_iff_eq] at this
    rw [List.getElem?_eq_getElem hi]
    exact this
  · rw [List.getElem?_eq_none (by omega)]; decide
theorem value_fit (h : valueE what width a = true) (e : what ≠ 3) : fitsE a width = true := by
  unfold valueE at h; rw [Bool.and_eq_true, Bool.and_eq_true] at h
  have h2 := h.2.2
  rw [if_neg e] at h2
  exact h2
theorem fits_bits (hz : ∀ z ∈ a, z < 18446744073709551616) (h : fitsE a width = true) (i k : Nat) (hk : (wAt a i).testBit k = true) : (wAt (fullE width) i).testBit k = true := by
  unfold fitsE at h
  rw [Bool.and_eq_true, decide_eq_true_eq] at h
  have h2 := h.2
  rw [← fits_eq a width hz h.1, subE_iff hz (fullE_lt width)] at h2
  exact (sub_iff _ _ (wAt_lt hz i) (wAt_lt (fullE_lt width) i)).1 (h2 i) k hk
theorem fits_of (hz : ∀ z ∈ a, z < 18446744073709551616) (hl : a.length = sizeE width) (h : ∀ i k, (wAt a i).testBit k = true → (wAt (fullE width) i).testBit k = true) : fitsE a width = true := by
  unfold fitsE
  rw [decide_eq_true hl, Bool.true_and, ← fits_eq a width hz hl, subE_iff hz (fullE_lt width)]
  exact fun i => (sub_iff _ _ (wAt_lt hz i) (wAt_lt (fullE_lt width) i)).2 (h i)
end
/-- The words of a value put together. -/
theorem word3 {x y : Nat} (hx : x < 18446744073709551616) (hy : y < 18446744073709551616) : ((wordE 3 x y : Nat) : Int) = cjoin x y := by
  have := cjoin_bd' x y (by omega) (by omega)
  show (((cjoin (x : Int) (y : Int)).toNat : Nat) : Int) = _
  omega
theorem word_what {what : Int} (h : 1 ≤ what ∧ what ≤ 3) : what = 1 ∨ what = 2 ∨ what = 3 := by omega

section
variable {what width : Int} {a b c : List Nat} (ha : ∀ z ∈ a, z < 18446744073709551616) (hb : ∀ z ∈ b, z < 18446744073709551616) (hc : ∀ z ∈ c, z < 18446744073709551616)
theorem isL_what (h : isL what width = true) : what = 1 ∨ what = 2 ∨ what = 3 := by
  simp only [isL, decide_eq_true_eq] at h; omega
theorem join_comm : joinE what a b = joinE what b a := by
  refine ext_at (by unfold joinE; rw [bothE_len, bothE_len]; omega) fun i _ => ?_
  rw [joinE_at, joinE_at]
  unfold wordE
  split
  · exact Nat.or_comm _ _
  · split
    · exact Nat.and_comm _ _
    · split
      · rw [cjoin_comm]
      · rfl
include ha hb in
theorem join_lt : ∀ z ∈ joinE what a b, z < 18446744073709551616 := bothE_lt (wordE_lt what) ha hb
include ha hb in
theorem join_value (va : valueE what width a = true) (vb : valueE what width b = true) : valueE what width (joinE what a b) = true := by
  have hl := joinE_len what (a := a) (b := b) (by rw [value_len va, value_len vb])
  have hw := isL_what (value_is va)
  unfold valueE
  rw [value_is va, hl, decide_eq_true (value_len va), Bool.true_and, Bool.true_and]
  by_cases e : what = 3
  · rw [if_pos e, List.all_eq_true]
    intro z hz
    obtain ⟨i, _, rfl⟩ := List.mem_map.1 hz
    unfold souN
    rw [beq_iff_eq, e, word3 (wAt_lt ha i) (wAt_lt hb i), sou_join']
  · rw [if_neg e]
    have hsz : wordsN what width = sizeE width := by unfold wordsN; rw [if_pos (value_is va), if_neg e]
    refine fits_of (join_lt ha hb) (by rw [hl, value_len va, hsz]) fun i k hk => ?_
    rw [joinE_at] at hk
    rcases hw with rfl | rfl | rfl
    · have hk : (orN (wAt a i) (wAt b i)).testBit k = true := hk
      rw [or_bits, Bool.or_eq_true] at hk
      rcases hk with hk | hk
      · exact fits_bits ha (value_fit va e) i k hk
      · exact fits_bits hb (value_fit vb e) i k hk
    · have hk : (andN (wAt a i) (wAt b i)).testBit k = true := hk
      rw [and_bits, Bool.and_eq_true] at hk
      exact fits_bits ha (value_fit va e) i k hk.1
    · exact absurd rfl e
include ha hb in
theorem below_join (va : valueE what width a = true) (vb : valueE what width b = true) : belowE what a (joinE what a b) = true := by
  rw [belowE_iff what (by rw [joinE_len what (by rw [value_len va, value_len vb])])]
  intro i
  rw [joinE_at]
  rcases isL_what (value_is va) with rfl | rfl | rfl
  · show orN (wAt a i) (orN (wAt a i) (wAt b i)) = orN (wAt a i) (wAt b i)
    unfold orN; rw [← Nat.or_assoc, Nat.or_self]
  · show andN (wAt a i) (andN (wAt a i) (wAt b i)) = andN (wAt a i) (wAt b i)
    unfold andN; rw [← Nat.and_assoc, Nat.and_self]
  · have h := word3 (wAt_lt ha i) (wAt_lt hb i)
    have h2 := word3 (wAt_lt ha i) (wordE_lt 3 _ _ (wAt_lt ha i) (wAt_lt hb i))
    have e : cjoin (wAt a i) (cjoin (wAt a i) (wAt b i)) = cjoin (wAt a i) (wAt b i) := by
      have h3 := sou_join' (wAt a i) (wAt b i)
      revert h3
      generalize hq : cjoin (wAt a i : Int) (wAt b i) = q
      intro h3
      unfold cjoin at hq ⊢
      rw [h3]
      revert hq
      generalize sou (wAt a i : Int) = x
      generalize sou (wAt b i : Int) = y
      intro hq
      split at hq <;> (try split at hq) <;> split <;> (try split) <;> omega
    rw [h, e, ← h] at h2
    exact Int.ofNat_inj.1 h2
include ha hb hc in
theorem join_least' (va : valueE what width a = true) (vb : valueE what width b = true) (vc : valueE what width c = true) (h : belowE what a c = true) (k : belowE what b c = true) : belowE what (joinE what a b) c = true := by
  have la := value_len va
  have lb := value_len vb
  have lc := value_len vc
  rw [belowE_iff what (by omega)] at h k
  rw [belowE_iff what (by rw [joinE_len what (by omega)]; omega)]
  intro i
  have h := h i
  have k := k i
  rw [joinE_at]
  rcases isL_what (value_is va) with rfl | rfl | rfl
  · have h : orN (wAt a i) (wAt c i) = wAt c i := h
    have k : orN (wAt b i) (wAt c i) = wAt c i := k
    show orN (orN (wAt a i) (wAt b i)) (wAt c i) = wAt c i
    unfold orN at *; rw [Nat.or_assoc, k, h]
  · have h : andN (wAt a i) (wAt c i) = wAt c i := h
    have k : andN (wAt b i) (wAt c i) = wAt c i := k
    show andN (andN (wAt a i) (wAt b i)) (wAt c i) = wAt c i
    unfold andN at *; rw [Nat.and_assoc, k, h]
  · have e1 := word3 (wAt_lt ha i) (wAt_lt hc i)
    have e2 := word3 (wAt_lt hb i) (wAt_lt hc i)
    have e3 := word3 (wAt_lt ha i) (wAt_lt hb i)
    have e4 := word3 (wordE_lt 3 _ _ (wAt_lt ha i) (wAt_lt hb i)) (wAt_lt hc i)
    have h3 := sou_join' (wAt a i) (wAt b i)
    have sc := value_sou vc rfl i
    rw [h] at e1
    rw [k] at e2
    rw [e3] at e4
    refine Int.ofNat_inj.1 (e4.trans ?_)
    revert e1 e2 h3
    generalize hq : cjoin (wAt a i : Int) (wAt b i) = q
    intro e1 e2 h3
    unfold cjoin at hq e1 e2 ⊢
    rw [h3, sc]
    rw [sc] at e1 e2
    revert hq e1 e2
    generalize sou (wAt a i : Int) = x
    generalize sou (wAt b i : Int) = y
    generalize (wAt c i : Int) = z
    intro hq e1 e2
    split at hq <;> split at e1 <;> split at e2 <;> (try split at hq) <;> (try split at e1) <;> (try split at e2) <;> split <;> (try split) <;> omega
end

end Go.Proofs.Ytfeipfemknnhhaa

namespace Go.Proofs.Ytfeipfemknnhhaa
open Go.RowKit

theorem bottom_len (what width : Int) : (bottomE what width).length = wordsN what width := by
  unfold bottomE
  split
  · next h => rw [fullE_len]; unfold wordsN; rw [if_pos h.2, if_neg (by omega)]
  · exact List.length_replicate
theorem top_len (what width : Int) : (topE what width).length = wordsN what width := by
  unfold topE
  split
  · next h => rw [fullE_len]; unfold wordsN; rw [if_pos h.2, if_neg (by omega)]
  · exact List.length_replicate
theorem wAt_rep (n z i : Nat) : wAt (List.replicate n z) i = if i < n then z else 0 := by
  unfold wAt
  rw [List.getElem?_replicate]
  split <;> rfl
theorem bottom_lt (what width : Int) : ∀ z ∈ bottomE what width, z < 18446744073709551616 := by
  unfold bottomE; split
  · exact fullE_lt _
  · intro z hz; rw [List.eq_of_mem_replicate hz]; decide
theorem top_lt (what width : Int) : ∀ z ∈ topE what width, z < 18446744073709551616 := by
  unfold topE; split
  · exact fullE_lt _
  · intro z hz; rw [List.eq_of_mem_replicate hz]; split <;> decide
theorem full_self (width : Int) : fitsE (fullE width) width = true :=
  fits_of (fullE_lt width) (fullE_len width) fun _ _ h => h
theorem zero_fits {width : Int} : fitsE (List.replicate (sizeE width) 0) width = true :=
  fits_of (fun z hz => by rw [List.eq_of_mem_replicate hz]; decide) List.length_replicate fun i k h => by
    rw [wAt_rep, ite_self, Nat.zero_testBit] at h
    cases h
theorem bottom_value {what width : Int} (h : isL what width = true) : valueE what width (bottomE what width) = true := by
  unfold valueE
  rw [h, bottom_len, decide_eq_true rfl, Bool.true_and, Bool.true_and]
  have hw := isL_what h
  by_cases e : what = 3
  · rw [if_pos e, List.all_eq_true]
    intro z hz
    unfold bottomE at hz
    rw [if_neg (by omega)] at hz
    rw [List.eq_of_mem_replicate hz]; decide
  · rw [if_neg e]
    unfold bottomE
    split
    · exact full_self width
    · have : wordsN what width = sizeE width := by unfold wordsN; rw [if_pos h, if_neg e]
      rw [this]; exact zero_fits
theorem top_value {what width : Int} (h : isL what width = true) : valueE what width (topE what width) = true := by
  unfold valueE
  rw [h, top_len, decide_eq_true rfl, Bool.true_and, Bool.true_and]
  by_cases e : what = 3
  · rw [if_pos e, List.all_eq_true]
    intro z hz
    unfold topE at hz
    rw [if_neg (by omega), if_pos e] at hz
    rw [List.eq_of_mem_replicate hz]; decide
  · rw [if_neg e]
    unfold topE
    split
    · exact full_self width
    · have : wordsN what width = sizeE width := by unfold wordsN; rw [if_pos h, if_neg e]
      rw [this]; exact zero_fits
theorem and_full {x y : Nat} (h : ∀ k, x.testBit k = true → y.testBit k = true) : andN y x = x := by
  refine Nat.eq_of_testBit_eq fun k => ?_
  rw [and_bits]
  cases hx : x.testBit k with
  | false => rw [Bool.and_false]
  | true => rw [h k hx]; rfl
theorem or_full {x y : Nat} (h : ∀ k, x.testBit k = true → y.testBit k = true) : orN x y = y := by
  refine Nat.eq_of_testBit_eq fun k => ?_
  rw [or_bits]
  cases hx : x.testBit k with
  | false => rw [Bool.false_or]
  | true => rw [h k hx]; rfl
section
variable {what width : Int} {a b : List Nat} (ha : ∀ z ∈ a, z < 18446744073709551616) (hb : ∀ z ∈ b, z < 18446744073709551616)
include ha in
theorem bottom_below (va : valueE what width a = true) : belowE what (bottomE what width) a = true := by
  rw [belowE_iff what (by rw [bottom_len, value_len va])]
  intro i
  have hL := value_is va
  rcases isL_what hL with rfl | rfl | rfl
  · have e : wAt (bottomE 1 width) i = 0 := by unfold bottomE; rw [if_neg (by omega), wAt_rep, ite_self]
    rw [e]
    exact Nat.zero_or _
  · have e : bottomE 2 width = fullE width := by unfold bottomE; rw [if_pos ⟨rfl, hL⟩]
    rw [e]
    exact and_full fun k hk => fits_bits ha (value_fit va (by decide)) i k hk
  · have e : wAt (bottomE 3 width) i = 0 := by unfold bottomE; rw [if_neg (by omega), wAt_rep, ite_self]
    rw [e]
    refine Int.ofNat_inj.1 ((word3 (by decide) (wAt_lt ha i)).trans ?_)
    have s := value_sou va rfl i
    have z0 : sou ((0 : Nat) : Int) = 0 := by decide
    unfold cjoin
    rw [s, z0]
    generalize (wAt a i : Int) = x
    split <;> (try split) <;> omega
include ha in
theorem below_top (va : valueE what width a = true) : belowE what a (topE what width) = true := by
  rw [belowE_iff what (by rw [top_len, value_len va])]
  intro i
  have hL := value_is va
  rcases isL_what hL with rfl | rfl | rfl
  · have e : topE 1 width = fullE width := by unfold topE; rw [if_pos ⟨rfl, hL⟩]
    rw [e]
    exact or_full fun k hk => fits_bits ha (value_fit va (by decide)) i k hk
  · have e : wAt (topE 2 width) i = 0 := by unfold topE; rw [if_neg (by omega), if_neg (by decide), wAt_rep, ite_self]
    rw [e]
    exact Nat.and_zero _
  · have e : wAt (topE 3 width) i = if i < wordsN 3 width then 1 else 0 := by unfold topE; rw [if_neg (by omega), if_pos rfl, wAt_rep]
    rw [e]
    by_cases hi : i < wordsN 3 width
    · rw [if_pos hi]
      refine Int.ofNat_inj.1 ((word3 (wAt_lt ha i) (by decide)).trans ?_)
      have z1 : sou ((1 : Nat) : Int) = 1 := by decide
      unfold cjoin
      rw [z1]
      generalize sou (wAt a i : Int) = x
      split <;> (try split) <;> omega
    · rw [if_neg hi]
      have e2 : wAt a i = 0 := by unfold wAt; rw [List.getElem?_eq_none (by have := value_len va; omega)]; rfl
      rw [e2]
      exact wordE_zero 3
theorem below_anti (h : belowE what a b = true) (k : belowE what b a = true) : a = b := by
  unfold belowE at h k
  rw [decide_eq_true_eq] at h k
  rw [← h, join_comm, k]
end

/-! ### Ranks -/
theorem lenE_or_min (xs ys : List Nat) (hx : ∀ z ∈ xs, z < 18446744073709551616) (hy : ∀ z ∈ ys, z < 18446744073709551616) : lenE (bothE orN xs ys) = lenE xs + lenE (bothE minN ys xs) := by
  rw [lenE_both, lenE_both, lenE_pad xs (max xs.length ys.length) (by omega), show max ys.length xs.length = max xs.length ys.length by omega]
  have h := sum_add (max xs.length ys.length) (fun i => pop 64 (orN (wAt xs i) (wAt ys i))) (fun _ => 0) (fun i => pop 64 (wAt xs i)) (fun i => pop 64 (minN (wAt ys i) (wAt xs i))) fun i => by
    have e := pop_or_and 64 (wAt xs i) (minN (wAt ys i) (wAt xs i))
    have e1 : wAt xs i ||| minN (wAt ys i) (wAt xs i) = orN (wAt xs i) (wAt ys i) := by
      refine Nat.eq_of_testBit_eq fun k => ?_
      rw [Nat.testBit_or, minN_bit _ _ _ (wAt_lt hy i) (wAt_lt hx i), or_bits]
      cases (wAt xs i).testBit k <;> cases (wAt ys i).testBit k <;> rfl
    have e2 : wAt xs i &&& minN (wAt ys i) (wAt xs i) = 0 := by
      refine Nat.eq_of_testBit_eq fun k => ?_
      rw [Nat.testBit_and, minN_bit _ _ _ (wAt_lt hy i) (wAt_lt hx i), Nat.zero_testBit]
      cases (wAt xs i).testBit k <;> cases (wAt ys i).testBit k <;> rfl
    rw [e1, e2, pop_zero] at e
    exact e
  have z : ((List.range (max xs.length ys.length)).map fun _ => 0).sum = 0 := (sum_zero _ _).2 fun _ _ => rfl
  omega
theorem lenE_and_min (xs ys : List Nat) (hx : ∀ z ∈ xs, z < 18446744073709551616) (hy : ∀ z ∈ ys, z < 18446744073709551616) : lenE xs = lenE (bothE andN xs ys) + lenE (bothE minN xs ys) := by
  rw [lenE_both, lenE_both, lenE_pad xs (max xs.length ys.length) (by omega)]
  have h := sum_add (max xs.length ys.length) (fun i => pop 64 (wAt xs i)) (fun _ => 0) (fun i => pop 64 (andN (wAt xs i) (wAt ys i))) (fun i => pop 64 (minN (wAt xs i) (wAt ys i))) fun i => by
    have e := pop_or_and 64 (andN (wAt xs i) (wAt ys i)) (minN (wAt xs i) (wAt ys i))
    have e1 : andN (wAt xs i) (wAt ys i) ||| minN (wAt xs i) (wAt ys i) = wAt xs i := by
      refine Nat.eq_of_testBit_eq fun k => ?_
      rw [Nat.testBit_or, minN_bit _ _ _ (wAt_lt hx i) (wAt_lt hy i), and_bits]
      cases (wAt xs i).testBit k <;> cases (wAt ys i).testBit k <;> rfl
    have e2 : andN (wAt xs i) (wAt ys i) &&& minN (wAt xs i) (wAt ys i) = 0 := by
      refine Nat.eq_of_testBit_eq fun k => ?_
      rw [Nat.testBit_and, minN_bit _ _ _ (wAt_lt hx i) (wAt_lt hy i), Nat.zero_testBit, and_bits]
      cases (wAt xs i).testBit k <;> cases (wAt ys i).testBit k <;> rfl
    rw [e1, e2, pop_zero] at e
    omega
  have z : ((List.range (max xs.length ys.length)).map fun _ => 0).sum = 0 := (sum_zero _ _).2 fun _ _ => rfl
  omega
theorem sum_at (f : Nat → Nat) (zs : List Nat) : (zs.map f).sum = ((List.range zs.length).map fun i => f (wAt zs i)).sum := by
  congr 1
  refine List.ext_getElem (by simp) fun i h1 h2 => ?_
  have hi : i < zs.length := by simpa using h1
  simp [wAt, List.getElem?_eq_getElem hi]
theorem sum_mono (n : Nat) (f g : Nat → Nat) (h : ∀ i, i < n → f i ≤ g i) : ((List.range n).map f).sum ≤ ((List.range n).map g).sum ∧ (((List.range n).map f).sum = ((List.range n).map g).sum → ∀ i, i < n → f i = g i) := by
  induction n with
  | zero => exact ⟨Nat.le_refl _, fun _ i hi => by omega⟩
  | succ n ih =>
    obtain ⟨i1, i2⟩ := ih fun i hi => h i (by omega)
    have hn := h n (by omega)
    simp only [List.range_succ, List.map_append, List.sum_append, List.map_cons, List.map_nil, List.sum_cons, List.sum_nil]
    refine ⟨by omega, fun e i hi => ?_⟩
    rcases (show i < n ∨ i = n by omega) with h' | rfl
    · exact i2 (by omega) i h'
    · omega
section
variable {what width : Int} {a b : List Nat} (ha : ∀ z ∈ a, z < 18446744073709551616) (hb : ∀ z ∈ b, z < 18446744073709551616)
include ha hb in
theorem rank_join (va : valueE what width a = true) (vb : valueE what width b = true) : rankE what width a ≤ rankE what width (joinE what a b) ∧ (rankE what width a = rankE what width (joinE what a b) ↔ a = joinE what a b) := by
  have la := value_len va
  have lb := value_len vb
  have hj := joinE_len what (a := a) (b := b) (by omega)
  rcases isL_what (value_is va) with rfl | rfl | rfl
  · have e : lenE (joinE 1 a b) = lenE a + lenE (bothE minN b a) := lenE_or_min a b ha hb
    show ((lenE a : Nat) : Int) ≤ (lenE (joinE 1 a b) : Nat) ∧ (((lenE a : Nat) : Int) = (lenE (joinE 1 a b) : Nat) ↔ _)
    refine ⟨by omega, fun h => ?_, fun h => by rw [← h]⟩
    have h0 : lenE (bothE minN b a) = 0 := by omega
    rw [within_iff b a hb ha] at h0
    refine ext_at (by omega) fun i _ => ?_
    rw [joinE_at]
    have h1 := (sub_iff _ _ (wAt_lt hb i) (wAt_lt ha i)).1 (h0 i)
    show _ = orN (wAt a i) (wAt b i)
    have := or_full h1
    unfold orN at this ⊢
    rw [Nat.or_comm, this]
  · have e : lenE a = lenE (joinE 2 a b) + lenE (bothE minN a b) := lenE_and_min a b ha hb
    show width - ((lenE a : Nat) : Int) ≤ width - (lenE (joinE 2 a b) : Nat) ∧ (width - ((lenE a : Nat) : Int) = width - (lenE (joinE 2 a b) : Nat) ↔ _)
    refine ⟨by omega, fun h => ?_, fun h => by rw [← h]⟩
    have h0 : lenE (bothE minN a b) = 0 := by omega
    rw [within_iff a b ha hb] at h0
    refine ext_at (by omega) fun i _ => ?_
    rw [joinE_at]
    have h1 := (sub_iff _ _ (wAt_lt ha i) (wAt_lt hb i)).1 (h0 i)
    show _ = andN (wAt a i) (wAt b i)
    have := and_full h1
    unfold andN at this ⊢
    rw [Nat.and_comm, this]
  · have hp : ∀ i, crankN (wAt a i) ≤ crankN (wordE 3 (wAt a i) (wAt b i)) ∧ (crankN (wAt a i) = crankN (wordE 3 (wAt a i) (wAt b i)) → wAt a i = wordE 3 (wAt a i) (wAt b i)) := by
      intro i
      have w3 := word3 (wAt_lt ha i) (wAt_lt hb i)
      have s := value_sou va rfl i
      have sj := sou_join' (wAt a i) (wAt b i)
      unfold crankN
      rw [w3]
      have key : crank (wAt a i) ≤ crank (cjoin (wAt a i) (wAt b i)) ∧ (crank (wAt a i) = crank (cjoin (wAt a i) (wAt b i)) → (wAt a i : Int) = cjoin (wAt a i) (wAt b i)) := by
        unfold crank
        rw [sj, s]
        unfold cjoin
        rw [s]
        generalize sou (wAt b i : Int) = y
        generalize (wAt a i : Int) = x
        constructor
        · split <;> (try split) <;> (try split) <;> (try split) <;> omega
        · split <;> (try split) <;> (try split) <;> (try split) <;> omega
      have b1 := crank_bd (wAt a i)
      have b2 := crank_bd (cjoin (wAt a i) (wAt b i))
      refine ⟨by omega, fun h => ?_⟩
      have := key.2 (by omega)
      rw [← w3] at this
      exact Int.ofNat_inj.1 this
    have es : ((joinE 3 a b).map crankN).sum = ((List.range a.length).map fun i => crankN (wordE 3 (wAt a i) (wAt b i))).sum := by
      rw [sum_at, hj]
      congr 1
      exact List.map_congr_left fun i _ => by rw [joinE_at]
    obtain ⟨m1, m2⟩ := sum_mono a.length (fun i => crankN (wAt a i)) (fun i => crankN (wordE 3 (wAt a i) (wAt b i))) fun i _ => (hp i).1
    show (((a.map crankN).sum : Nat) : Int) ≤ (((joinE 3 a b).map crankN).sum : Nat) ∧ ((((a.map crankN).sum : Nat) : Int) = (((joinE 3 a b).map crankN).sum : Nat) ↔ _)
    rw [es, sum_at]
    refine ⟨by omega, fun h => ?_, fun h => ?_⟩
    · refine ext_at (by omega) fun i hi => ?_
      rw [joinE_at]
      exact (hp i).2 (m2 (by omega) i hi)
    · rw [← es, ← sum_at, ← h]
include ha in
theorem rank_height (va : valueE what width a = true) (hw : ¬ (200 < width ∧ width < 1024)) : rankE what width a ≤ heightE what width := by
  have hL := value_is va
  have hn := isL_near hL
  have la := value_len va
  unfold heightE
  rw [if_pos hL]
  rcases isL_what hL with rfl | rfl | rfl
  · have e := lenE_or_min a (fullE width) ha (fullE_lt width)
    have e2 : bothE orN a (fullE width) = fullE width := by
      have hl : a.length = sizeE width := by rw [la]; unfold wordsN; rw [if_pos hL, if_neg (by decide)]
      refine ext_at (by rw [bothE_len, fullE_len]; omega) fun i _ => ?_
      rw [bothE_at orN rfl]
      exact or_full fun k hk => fits_bits ha (value_fit va (by decide)) i k hk
    rw [e2] at e
    have hf := full_len width hw
    show ((lenE a : Nat) : Int) ≤ width
    omega
  · show width - ((lenE a : Nat) : Int) ≤ width
    omega
  · have hl : a.length = width.toNat := by rw [la]; unfold wordsN; rw [if_pos hL, if_pos rfl]
    have h0 : 0 ≤ width := by simp only [isL, decide_eq_true_eq] at hL; omega
    obtain ⟨m1, _⟩ := sum_mono a.length (fun i => crankN (wAt a i)) (fun _ => 2) fun i _ => by
      have := crank_bd (wAt a i)
      unfold crankN; omega
    have e2 : ((List.range a.length).map fun _ => 2).sum = 2 * a.length := by
      have : (List.range a.length).map (fun _ => 2) = List.replicate a.length 2 := by
        refine List.ext_getElem (by simp) fun i h1 h2 => by simp
      rw [this, List.sum_replicate_nat, Nat.mul_comm]
    show (((a.map crankN).sum : Nat) : Int) ≤ 2 * width
    rw [sum_at]
    omega
end

end Go.Proofs.Ytfeipfemknnhhaa

namespace Go.Proofs.Ytfeipfemknnhhaa
open Go.RowKit

theorem rwrap_any (n : Int) (w : World) :
    Calls Try.prog 125 #[.int .i64 n] w fun e w' => e = .returned (.int .i64 (wr n)) ∧ w = w' := by
  go_enter Try.func125, Try.ntmps125
  go_wp2
  go_ret
  exact ⟨ret_int (rwrap_eq n), rfl⟩

theorem rof_any (a b : Int) (w : World) :
    Calls Try.prog 99 #[.int .i64 a, .int .i64 b] w fun e w' => e = .returned (.agg #[.int .i64 (wr a), .int .i64 (wr b)]) ∧ Below w.heap.size w w' := by
  go_enter Try.func99, Try.ntmps99
  go_wp2_with (go_at_call 125; refine (rwrap_any _ _).mono ?_; rintro e w' ⟨rfl, rfl⟩)
  exact bodyPost_ret (v := .agg #[.int .i64 (wr a), .int .i64 (wr b)]) (by simp [results, Try.results99, go_sem]) rfl ⟨rfl, (Below.refl _ _).alloc (Nat.le_refl _) _⟩

end Go.Proofs.Ytfeipfemknnhhaa

namespace Go.Proofs.Ytfeipfemknnhhaa
open Go.RowKit

theorem rnum_any (x : Int) (w : World) (h0 : 0 ≤ x ∧ x ≤ 18446744073709551615) :
    Calls Try.prog 98 #[.int .u64 x] w fun e w' => e = .returned (.tuple #[.agg #[.int .i64 (numv x).1, .int .i64 (numv x).2], .bool (isn x)]) ∧ Below w.heap.size w w' := by
  by_cases h1 : x % 4 = 2
  · by_cases h2 : x / 4 < 4294967296
    · have hi : isn x = true := by simp [isn, h1, h2]
      have hn : numv x = (wr (x / 4), wr (x / 4 / 65536)) := by simp [numv, hi]
      rw [hi, hn]
      clear hi hn
      have hm : (x % 4 != 2) = false := by simp [h1]
      have hd : decide (4294967296 ≤ x / 4) = false := by simp; omega
      have H1 := Lib.hid h1
      have h3 : 0 ≤ x / 4 := by omega
      clear h1
      go_enter Try.func98, Try.ntmps98
      go_wp2_with fail
      refine (rof_any _ _ _).mono ?_
      rintro e w1 ⟨rfl, hB⟩
      have e1 : wr (x / 4 % 65536) = wr (x / 4) := by unfold wr; omega
      rw [e1]
      obtain ⟨k0, k1, f0, f1⟩ := pair_behind hB
      have HB := Lib.hid hB
      clear hB hm h2 hd e1
      go_wp2_with fail
      exact bodyPost_ret (v := .tuple #[.agg #[.int .i64 (wr (x / 4)), .int .i64 (wr (x / 4 / 65536))], .bool true]) (by simp [results, Try.results98, go_sem, k0, k1]) rfl ⟨rfl, pair_end HB.out _ _⟩
    · have hi : isn x = false := by simp [isn, h1]; omega
      have hn : numv x = (0, 0) := by simp [numv, hi]
      rw [hi, hn]
      clear hi hn
      have hm : (x % 4 != 2) = false := by simp [h1]
      have hd : decide (4294967296 ≤ x / 4) = true := by simp; omega
      have H1 := Lib.hid h1
      clear h1
      go_enter Try.func98, Try.ntmps98
      go_wp2_with fail
      exact bodyPost_ret (v := .tuple #[.agg #[.int .i64 0, .int .i64 0], .bool false]) (by simp [results, Try.results98, go_sem]) rfl ⟨rfl, (Below.refl _ _).alloc (Nat.le_refl _) _⟩
  · have hi : isn x = false := by simp [isn, h1]
    have hn : numv x = (0, 0) := by simp [numv, hi]
    rw [hi, hn]
    clear hi hn
    have hm : (x % 4 != 2) = true := by simp [h1]
    have H1 := Lib.hid h1
    clear h1
    go_enter Try.func98, Try.ntmps98
    go_wp2_with fail
    exact bodyPost_ret (v := .tuple #[.agg #[.int .i64 0, .int .i64 0], .bool false]) (by simp [results, Try.results98, go_sem]) rfl ⟨rfl, (Below.refl _ _).alloc (Nat.le_refl _) _⟩

theorem norm_any (x : Int) (w : World) (h0 : 0 ≤ x ∧ x ≤ 18446744073709551615) :
    Calls Try.prog 67 #[.int .u64 x] w fun e w' => e = .returned (.int .u64 (sou x)) ∧ Below w.heap.size w w' := by
  by_cases hz : x = 0
  · subst hz
    go_enter Try.func67, Try.ntmps67
    go_wp2_with fail
    refine (rnum_any _ _ h0).mono ?_
    rintro e w1 ⟨rfl, hB⟩
    go_wp2_with fail
    go_ret
    exact ⟨ret_int (by decide), hB.alloc hB.size _⟩
  · have e0 : (x != 0) = true := by simpa using hz
    have hz' : sou x = if isn x = true then x else 1 := by
      unfold sou; rw [if_neg hz]
    have Hz := Lib.hid hz'
    clear hz hz'
    go_enter Try.func67, Try.ntmps67
    go_wp2_with fail
    refine (rnum_any _ _ h0).mono ?_
    rintro e w1 ⟨rfl, hB⟩
    cases hi : isn x
    · have Hi := Lib.hid hi
      clear hi
      go_wp2_with fail
      go_ret
      exact ⟨ret_int (by rw [Hz.out, Hi.out]; rfl), hB.alloc hB.size _⟩
    · have Hi := Lib.hid hi
      clear hi
      go_wp2_with fail
      go_ret
      exact ⟨ret_int (by rw [Hz.out, Hi.out]; rfl), hB.alloc hB.size _⟩

end Go.Proofs.Ytfeipfemknnhhaa

namespace Go.Proofs.Ytfeipfemknnhhaa
open Go.RowKit

theorem isL_yes {what width : Int} (h : what = 1 ∨ what = 2 ∨ what = 3) (k : 0 ≤ width ∧ width ≤ 1024) : isL what width = true := by
  unfold isL; rw [decide_eq_true_eq]; omega
theorem isL_no {what width : Int} (h : ¬ ((what = 1 ∨ what = 2 ∨ what = 3) ∧ 0 ≤ width ∧ width ≤ 1024)) : isL what width = false := by
  unfold isL; rw [decide_eq_false_iff_not]; omega
theorem isL_kinds (what width : Int) : isL what width = if what = 1 ∨ what = 2 ∨ what = 3 then (decide (0 ≤ width) && decide (width ≤ 1024)) else false := by
  split
  · next h =>
    by_cases k : 0 ≤ width ∧ width ≤ 1024
    · rw [isL_yes h k, decide_eq_true k.1, decide_eq_true k.2]; rfl
    · rw [isL_no (by omega)]
      symm
      simp only [Bool.and_eq_false_iff, decide_eq_false_iff_not]
      omega
  · exact isL_no (by omega)

set_option maxHeartbeats 1600000 in
set_option maxRecDepth 100000 in
theorem lis_any (what width : Int) (w : World) :
    Calls Try.prog 64 #[.int .i64 what, .int .i64 width] w fun e w' => e = .returned (.bool (isL what width)) ∧ w' = w := by
  have HK := Lib.hid (isL_kinds what width)
  rcases (show what = 1 ∨ what = 2 ∨ what = 3 ∨ (what ≠ 1 ∧ what ≠ 2 ∧ what ≠ 3) by omega) with h | h | h | ⟨h1, h2, h3⟩
  · rw [HK.out, if_pos (by omega)]
    subst h
    clear HK
    by_cases h0 : 0 ≤ width
    · go_enter Try.func64, Try.ntmps64
      go_wp2
      go_ret
      exact ⟨ret_bool (by simp [h0]), rfl⟩
    · go_enter Try.func64, Try.ntmps64
      go_wp2
      go_ret
      exact ⟨ret_bool (by simp; omega), rfl⟩
  · rw [HK.out, if_pos (by omega)]
    subst h
    clear HK
    by_cases h0 : 0 ≤ width
    · go_enter Try.func64, Try.ntmps64
      go_wp2
      go_ret
      exact ⟨ret_bool (by simp [h0]), rfl⟩
    · go_enter Try.func64, Try.ntmps64
      go_wp2
      go_ret
      exact ⟨ret_bool (by simp; omega), rfl⟩
  · rw [HK.out, if_pos (by omega)]
    subst h
    clear HK
    by_cases h0 : 0 ≤ width
    · go_enter Try.func64, Try.ntmps64
      go_wp2
      go_ret
      exact ⟨ret_bool (by simp [h0]), rfl⟩
    · go_enter Try.func64, Try.ntmps64
      go_wp2
      go_ret
      exact ⟨ret_bool (by simp; omega), rfl⟩
  · rw [HK.out, if_neg (by omega)]
    have e1 : (what == 1) = false := by simpa using h1
    have e2 : (what == 2) = false := by simpa using h2
    have e3 : (what == 3) = false := by simpa using h3
    clear h1 h2 h3 HK
    go_enter Try.func64, Try.ntmps64
    go_wp2
    go_ret
    exact ⟨rfl, rfl⟩

set_option maxHeartbeats 1600000 in
set_option maxRecDepth 100000 in
theorem rlis_any (what width : Int) (w : World) :
    Calls Try.prog 34 #[.int .i64 what, .int .i64 width] w fun e w' => e = .returned (.bool (isL what width)) ∧ w' = w := by
  have hE : isL what width = (decide (1 ≤ what) && (decide (what ≤ 3) && (decide (0 ≤ width) && decide (width ≤ 1024)))) := by
    unfold isL; rw [Bool.eq_iff_iff]; simp [decide_eq_true_eq]
  rw [hE]
  clear hE
  by_cases h1 : 1 ≤ what
  · by_cases h2 : what ≤ 3
    · by_cases h3 : 0 ≤ width
      · go_enter Try.func34, Try.ntmps34
        go_wp2
        go_ret
        exact ⟨ret_bool (by simp [h1, h2, h3]), rfl⟩
      · go_enter Try.func34, Try.ntmps34
        go_wp2
        go_ret
        exact ⟨ret_bool (by simp; omega), rfl⟩
    · go_enter Try.func34, Try.ntmps34
      go_wp2
      go_ret
      exact ⟨ret_bool (by simp; omega), rfl⟩
  · go_enter Try.func34, Try.ntmps34
    go_wp2
    go_ret
    exact ⟨ret_bool (by simp; omega), rfl⟩

theorem wordsN_flat {width : Int} (h : isL 3 width = true) : width = (wordsN 3 width : Int) := by
  unfold wordsN; rw [if_pos h, if_pos rfl]
  simp only [isL, decide_eq_true_eq] at h; omega
theorem wordsN_set {what width : Int} (h : isL what width = true) (e : what ≠ 3) : (near width + 63) / 64 = (wordsN what width : Int) := by
  unfold wordsN; rw [if_pos h, if_neg e]; exact sizeE_int width
theorem wordsN_none {what width : Int} (h : isL what width = false) : wordsN what width = 0 := by unfold wordsN; rw [h]; rfl

set_option maxHeartbeats 1600000 in
set_option maxRecDepth 100000 in
theorem lwords_any (what width : Int) (w : World) :
    Calls Try.prog 45 #[.int .i64 what, .int .i64 width] w fun e w' => e = .returned (.int .i64 (wordsN what width : Nat)) ∧ w' = w := by
  go_enter Try.func45, Try.ntmps45
  go_wp2_with fail
  refine (lis_any _ _ _).mono ?_
  rintro e w1 ⟨rfl, hww⟩
  subst w1
  cases hL : isL what width with
  | false =>
    have H := Lib.hid (wordsN_none hL)
    clear hL
    go_wp2_with fail
    go_ret
    exact ⟨ret_int (by rw [H.out]; rfl), rfl⟩
  | true =>
    by_cases h3 : what = 3
    · subst h3
      have H := Lib.hid (wordsN_flat hL)
      clear hL
      go_wp2_with fail
      go_ret
      exact ⟨ret_int H.out, rfl⟩
    · have H := Lib.hid (wordsN_set hL h3)
      have e3 : (what == 3) = false := by simpa using h3
      clear hL h3
      go_wp2_with fail
      refine (size_any _ _).mono ?_
      rintro e w1 ⟨rfl, hww⟩
      subst w1
      go_wp2_with fail
      go_ret
      exact ⟨ret_int H.out, rfl⟩

set_option maxHeartbeats 1600000 in
set_option maxRecDepth 100000 in
theorem rlwords_any (what width : Int) (w : World) :
    Calls Try.prog 46 #[.int .i64 what, .int .i64 width] w fun e w' => e = .returned (.int .i64 (wordsN what width : Nat)) ∧ w' = w := by
  go_enter Try.func46, Try.ntmps46
  go_wp2_with fail
  refine (rlis_any _ _ _).mono ?_
  rintro e w1 ⟨rfl, hww⟩
  subst w1
  cases hL : isL what width with
  | false =>
    have H := Lib.hid (wordsN_none hL)
    clear hL
    go_wp2_with fail
    go_ret
    exact ⟨ret_int (by rw [H.out]; rfl), rfl⟩
  | true =>
    by_cases h3 : what = 3
    · subst h3
      have H := Lib.hid (wordsN_flat hL)
      clear hL
      go_wp2_with fail
      go_ret
      exact ⟨ret_int H.out, rfl⟩
    · have H := Lib.hid (wordsN_set hL h3)
      have e3 : (what == 3) = false := by simpa using h3
      clear hL h3
      go_wp2_with fail
      refine (rsize_any _ _).mono ?_
      rintro e w1 ⟨rfl, hww⟩
      subst w1
      go_wp2_with fail
      go_ret
      exact ⟨ret_int H.out, rfl⟩

theorem height_none {what width : Int} (h : isL what width = false) : heightE what width = 0 := by unfold heightE; rw [h]; rfl
theorem height_flat {width : Int} (h : isL 3 width = true) : heightE 3 width = 2 * width ∧ 0 ≤ width ∧ width ≤ 1024 := by
  refine ⟨by unfold heightE; rw [if_pos h, if_pos rfl], ?_⟩
  simp only [isL, decide_eq_true_eq] at h; omega
theorem height_set {what width : Int} (h : isL what width = true) (e : what ≠ 3) : heightE what width = width ∧ (what = 1 ∨ what = 2) ∧ 0 ≤ width ∧ width ≤ 1024 := by
  refine ⟨by unfold heightE; rw [if_pos h, if_neg e], ?_⟩
  simp only [isL, decide_eq_true_eq] at h; omega



theorem band' (a b : Nat) (ha : a < 18446744073709551616) (hb : b < 18446744073709551616) : bits .and .u64 (a : Int) (b : Int) = ((a &&& b : Nat) : Int) :=
  (bits_nat .u64 64 (by decide) wraps_u64 a b (by omega) (by omega)).1

set_option maxHeartbeats 1600000 in
set_option maxRecDepth 100000 in
theorem lword_any (what : Int) (x y : Nat) (w : World) (hx : x < 18446744073709551616) (hy : y < 18446744073709551616) :
    Calls Try.prog 33 #[.int .i64 what, .int .u64 (x : Nat), .int .u64 (y : Nat)] w fun e w' => e = .returned (.int .u64 (wordE what x y : Nat)) ∧ Below w.heap.size w w' := by
  have B0 := Lib.hid (Below.refl w.heap.size w)
  rcases (show what = 1 ∨ what = 2 ∨ what = 3 ∨ (what ≠ 1 ∧ what ≠ 2 ∧ what ≠ 3) by omega) with h | h | h | ⟨h1, h2, h3⟩
  · subst h
    have hop : bits .or .u64 (x : Int) (y : Int) = ((wordE 1 x y : Nat) : Int) := bor x y hx hy
    go_enter Try.func33, Try.ntmps33
    go_wp2
    go_ret
    exact ⟨rfl, B0.out⟩
  · subst h
    have hop : bits .and .u64 (x : Int) (y : Int) = ((wordE 2 x y : Nat) : Int) := band' x y hx hy
    go_enter Try.func33, Try.ntmps33
    go_wp2
    go_ret
    exact ⟨rfl, B0.out⟩
  · subst h
    have H3 := Lib.hid (word3 hx hy)
    go_enter Try.func33, Try.ntmps33
    go_wp2_with fail
    refine (join_any _ _ _ (by omega) (by omega)).mono ?_
    rintro e w1 ⟨rfl, hB⟩
    rw [← H3.out]
    have HB := Lib.hid hB
    clear hB
    go_wp2_with fail
    go_ret
    exact ⟨rfl, HB.out⟩
  · have H := Lib.hid (show wordE what x y = 0 by unfold wordE; rw [if_neg h1, if_neg h2, if_neg h3])
    have e1 : (what == 1) = false := by simpa using h1
    have e2 : (what == 2) = false := by simpa using h2
    have e3 : (what == 3) = false := by simpa using h3
    clear h1 h2 h3
    go_enter Try.func33, Try.ntmps33
    go_wp2
    go_ret
    exact ⟨by rw [H.out]; rfl, B0.out⟩


end Go.Proofs.Ytfeipfemknnhhaa

namespace Go.Proofs.Ytfeipfemknnhhaa
open Go.RowKit

theorem Ws.of_bk {w : World} {g : Nat} {cs : List Value} {a : List Nat} {n cap : Nat} (h : Bk w g 41 cs) (hl : a.length = n) (ht : cs.take n = u64s a) (hz : ∀ z ∈ a, z < 18446744073709551616) : Ws w (.slice (some ⟨g, 0, none⟩) n cap) a := by
  subst hl
  refine ⟨hz, .inr ⟨⟨g, 0, none⟩, cap, rfl, fun i hi => ?_⟩⟩
  have e : cs[i]? = (u64s a)[i]? := by rw [← ht, List.getElem?_take, if_pos hi]
  rw [show (⟨g, 0, none⟩ : Addr).add i = ⟨g, i, none⟩ from by unfold Addr.add; split <;> simp_all, h.cell, e, u64s_at _ _ hi]
  rfl
theorem own_bare64 (w : World) (base : Nat) (hb : base ≤ w.heap.size) : (w.alloc (.cells #[] 41)).ownsRow base 41 1 (.slice (some ⟨w.heap.size, 0, none⟩) 0 0) 0 [] :=
  ⟨by simp, .inr ⟨w.heap.size, 0, #[], rfl, hb, heap_alloc_new w _, Nat.le_refl _, by unfold maxLen; omega, by simp, by simp⟩⟩

set_option maxHeartbeats 3200000 in
set_option maxRecDepth 100000 in
theorem with_any (m : Nat) (v : Value) (zs : List Nat) (w : World) (hw : Ws w v zs) (hm : m / 64 < zs.length) (hn : zs.length ≤ 100000) :
    Calls Try.prog 127 #[v, .int .i64 (m : Nat)] w fun e w' => ∃ u, e = .returned u ∧ Ws w' u (withE zs m) ∧ Below w.heap.size w w' := by
  obtain ⟨i0, hi, hz0, hz1, hz2⟩ := info_parts u64_info
  have HZ := Lib.hid hw.1
  obtain ⟨p, c, rfl, hc⟩ := ws_row hw
  obtain ⟨a, rfl, q⟩ := hc (by omega)
  have HQ := Lib.hid (show ∀ j u, (u64s zs)[j]? = some u → w.cell? (a.add j) = some u from fun j u hj => by
    have hlt : j < zs.length := by
      rcases Nat.lt_or_ge j zs.length with h | h
      · exact h
      · rw [List.getElem?_eq_none (by simpa [u64s] using h)] at hj; cases hj
    rw [u64s_at zs j hlt] at hj
    injection hj with hj
    subst hj
    exact q j hlt)
  have HB0 := Lib.hid ((Below.refl w.heap.size w).alloc (Nat.le_refl _) (.cells #[] 41))
  have HU := Lib.hid (own_bare64 w w.heap.size (Nat.le_refl _))
  clear q hc hw
  go_enter Try.func127, Try.ntmps127
  go_wp2_with (at_builtin; refine wpList_append_own _ rfl _ _ 24 rfl w.heap.size 41 i0 (.int .u64 0) 1 8 Try.underlying24 hi hz0 hz1 hz2 rfl (by decide) _ 0 [] rfl HU.out a zs.length c (u64s zs) rfl ?c1 ?c2 ?c3 ?c4 ?c5 ?c6 ?_)
  case c1 => simp [u64s]
  case c2 => exact fun j u hj => keepc (HQ.out j u hj) HB0.out
  case c3 => exact fun u hu => by obtain ⟨_, _, rfl⟩ := List.mem_map.1 hu; rfl
  case c4 => unfold maxLen; omega
  case c5 => omega
  case c6 => simp
  intro v' w1 hown hgrow _
  obtain ⟨hl, ⟨rfl, h0⟩ | ⟨g, cap, cur, rfl, hg, hb, hnc, hmx, hsz, hct⟩⟩ := hown
  · exfalso; omega
  have HK := Lib.hid (show Bk w1 g 41 cur.toList from hb)
  have HTk := Lib.hid (show cur.toList.take zs.length = u64s zs by rw [← List.nil_append (u64s zs), ← hct]; simp)
  have HB1 := Lib.hid (HB0.out.grown hgrow (by simp) (fun k hk => (HU.out.lt k hk).1))
  clear hb hct hgrow hl hsz
  have hq : m / 64 < zs.length := hm
  have hr : m % 64 < 64 := by omega
  have hdiv : ((m : Int)).tdiv 64 = ((m / 64 : Nat) : Int) := by rw [Int.tdiv_eq_ediv_of_nonneg (by omega)]; omega
  have hmod : ((m : Int)).tmod 64 = ((m % 64 : Nat) : Int) := by rw [Int.tmod_eq_emod_of_nonneg (by omega)]; omega
  have hcell : w1.cell? ⟨g, m / 64, none⟩ = some (.int .u64 (wAt zs (m / 64) : Nat)) := by
    rw [HK.out.cell, ← u64s_at zs _ hq, ← HTk.out, List.getElem?_take, if_pos hq]
  have hfree := HK.out.free (m / 64)
  have HWL := Lib.hid (withE_lt HZ.out m)
  have HBs := Lib.hid (HK.out.set (m / 64) (.int .u64 ((wAt zs (m / 64) ||| 2 ^ (m % 64) : Nat) : Int)))
  have HTs := Lib.hid (show (cur.toList.set (m / 64) (.int .u64 ((wAt zs (m / 64) ||| 2 ^ (m % 64) : Nat) : Int))).take zs.length = u64s (withE zs m) by
    rw [List.take_set, HTk.out]; unfold withE; rw [u64s_set])
  have HZ1 := Lib.hid (wAt_lt HZ.out (m / 64))
  generalize wAt zs (m / 64) = z at *
  go_wp2_with fail
  go_region
  have hor := or_bit z (m % 64) HZ1.out hr
  rw [hor]
  go_wp2_with fail
  go_ret
  exact ⟨_, rfl, Ws.of_bk HBs.out.drew (withE_len zs m) HTs.out HWL.out, (HB1.out.setCell (p := ⟨g, m / 64, none⟩) hg _).drew⟩

end Go.Proofs.Ytfeipfemknnhhaa

namespace Go.Proofs.Ytfeipfemknnhhaa
open Go.RowKit

theorem int_info : (Try.prog.info? 3).map (fun i => (i.zero, i.size, i.bytes)) = some (some (.int .i64 0), 1, 8) := by kernel_rfl
def natVs (l : List Nat) : List Value := l.map fun x => Value.int .i64 ((x : Nat) : Int)
theorem natVs_snoc (l : List Nat) (x : Nat) : natVs (l ++ [x]) = natVs l ++ [Value.int .i64 ((x : Nat) : Int)] := by simp [natVs]
theorem natVs_ints (l : List Nat) : natVs l = (l.map Int.ofNat).map (Value.int .i64) := by simp [natVs]

end Go.Proofs.Ytfeipfemknnhhaa

namespace Go.Proofs.Ytfeipfemknnhhaa
open Go.RowKit

/-- What the number 'how' asks for. -/
def howIs (how : Int) (c : Bool → Bool → Bool) : Prop := (how = 1 ∧ c = fun x y => x || y) ∨ (how = 2 ∧ c = fun x y => x && y) ∨ (how = 3 ∧ c = fun x y => x && !y)

set_option maxHeartbeats 6400000 in
set_option maxRecDepth 100000 in
theorem rboth_any (how : Int) (c : Bool → Bool → Bool) (hh : howIs how c) (v1 v2 : Value) (xs ys : List Nat) (w : World) (h1 : Ws w v1 xs) (h2 : Ws w v2 ys) (hx : xs.length ≤ 1000) (hy : ys.length ≤ 1000) :
    Calls Try.prog 101 #[v1, v2, .int .i64 how] w fun e w' => ∃ v, e = .returned v ∧ Ws w' v (bothF c xs ys (64 * max xs.length ys.length)) ∧ Below w.heap.size w w' := by
  have H1 := Lib.hid h1
  have H2 := Lib.hid h2
  have HH := Lib.hid hh
  obtain ⟨p1, c1, rfl⟩ := ws_len h1
  obtain ⟨p2, c2, rfl⟩ := ws_len h2
  have hmk := make_u64 (max xs.length ys.length) (max (xs.length : Int) ys.length) (by omega) (by omega)
  have hmk1 := make_u64 xs.length xs.length rfl (by omega)
  have hmk2 := make_u64 ys.length ys.length rfl (by omega)
  clear h1 h2 hh
  go_enter Try.func101, Try.ntmps101
  rcases (show (ys.length : Int) ≤ xs.length ∨ (xs.length : Int) < ys.length by omega) with hle | hle
  · go_wp2_with fail
    have HN := Lib.hid (show max xs.length ys.length = xs.length by omega)
    clear hmk hmk1 hmk2
    go_loopw [7, 8] (fun u i wr => ∃ k : Nat, k ≤ 64 * xs.length ∧ i = .int .i64 k ∧ Ws wr u (bothF c xs ys k) ∧ Below w.heap.size w wr)
      (fun _ i _ => 64 * xs.length - (intOf i).toNat)
    case atStart => exact ⟨0, Nat.zero_le _, rfl, by unfold bothF; rw [HN.out, ← Array.toArray_toList (xs := Array.replicate xs.length (Value.int IntKind.u64 0)), Array.toList_replicate, ← u64s_zero]; exact (Bk.new _ _ _).ws (by simp) (fun z hz => by rw [List.eq_of_mem_replicate hz]; decide), (Below.refl _ _).alloc (Nat.le_refl _) _⟩
    case round =>
      obtain ⟨k, hk, rfl, hl, hB⟩ := hrel
      have HL := Lib.hid hl
      have HB := Lib.hid hB
      obtain ⟨p3, c3, rfl⟩ := ws_len hl
      have hlen : (bothF c xs ys k).length = xs.length := by rw [bothF_len]; exact HN.out
      have HLo := Lib.hid (show Ws wr (Value.slice p3 xs.length c3) (bothF c xs ys k) by rw [← hlen]; exact HL.out)
      rw [hlen]
      clear hl hB
      by_cases hlt : k < 64 * xs.length
      · have H1r := Lib.hid (H1.out.below HB.out)
        have H2r := Lib.hid (H2.out.below HB.out)
        have HS := Lib.hid (show bothF c xs ys (k + 1) = if c (hasE xs (k : Nat)) (hasE ys (k : Nat)) = true then withE (bothF c xs ys k) k else bothF c xs ys k from rfl)
        have HW := Lib.hid (with_any k _ (bothF c xs ys k) wr HLo.out (by rw [hlen]; omega) (by rw [hlen]; omega))
        have HLen := Lib.hid hlen
        clear hlen
        generalize bothF c xs ys k = zs at *
        go_wp2_with fail
        refine (rhas_any k _ _ _ H1r.out (by omega)).mono ?_
        rintro e w1 ⟨rfl, hww⟩
        subst w1
        generalize hasE xs (k : Nat) = bx at *
        go_wp2_with fail
        refine (rhas_any k _ _ _ H2r.out (by omega)).mono ?_
        rintro e w1 ⟨rfl, hww⟩
        subst w1
        generalize hasE ys (k : Nat) = by_ at *
        rcases HH.out with ⟨rfl, rfl⟩ | ⟨rfl, rfl⟩ | ⟨rfl, rfl⟩
        · cases bx <;> cases by_
          · go_wp2_with fail
            go_roundw
            case rel => exact ⟨k + 1, by omega, by go_num, by rw [HS.out]; exact HLo.out, HB.out⟩
            case measure => simp [intOf]; omega
          · go_wp2_with fail
            refine HW.out.mono ?_
            rintro e w2 ⟨u2, rfl, hW2, hB2⟩
            have HB2 := Lib.hid (HB.out.trans (hB2.mono HB.out.size))
            have HW2 := Lib.hid hW2
            obtain ⟨p4, c4, rfl⟩ := ws_len hW2
            clear hW2 hB2
            go_wp2_with fail
            go_roundw
            case rel => exact ⟨k + 1, by omega, by go_num, by rw [HS.out]; exact HW2.out, HB2.out⟩
            case measure => simp [intOf]; omega
          · go_wp2_with fail
            refine HW.out.mono ?_
            rintro e w2 ⟨u2, rfl, hW2, hB2⟩
            have HB2 := Lib.hid (HB.out.trans (hB2.mono HB.out.size))
            have HW2 := Lib.hid hW2
            obtain ⟨p4, c4, rfl⟩ := ws_len hW2
            clear hW2 hB2
            go_wp2_with fail
            go_roundw
            case rel => exact ⟨k + 1, by omega, by go_num, by rw [HS.out]; exact HW2.out, HB2.out⟩
            case measure => simp [intOf]; omega
          · go_wp2_with fail
            refine HW.out.mono ?_
            rintro e w2 ⟨u2, rfl, hW2, hB2⟩
            have HB2 := Lib.hid (HB.out.trans (hB2.mono HB.out.size))
            have HW2 := Lib.hid hW2
            obtain ⟨p4, c4, rfl⟩ := ws_len hW2
            clear hW2 hB2
            go_wp2_with fail
            go_roundw
            case rel => exact ⟨k + 1, by omega, by go_num, by rw [HS.out]; exact HW2.out, HB2.out⟩
            case measure => simp [intOf]; omega
        · cases bx <;> cases by_
          · go_wp2_with fail
            go_roundw
            case rel => exact ⟨k + 1, by omega, by go_num, by rw [HS.out]; exact HLo.out, HB.out⟩
            case measure => simp [intOf]; omega
          · go_wp2_with fail
            go_roundw
            case rel => exact ⟨k + 1, by omega, by go_num, by rw [HS.out]; exact HLo.out, HB.out⟩
            case measure => simp [intOf]; omega
          · go_wp2_with fail
            go_roundw
            case rel => exact ⟨k + 1, by omega, by go_num, by rw [HS.out]; exact HLo.out, HB.out⟩
            case measure => simp [intOf]; omega
          · go_wp2_with fail
            refine HW.out.mono ?_
            rintro e w2 ⟨u2, rfl, hW2, hB2⟩
            have HB2 := Lib.hid (HB.out.trans (hB2.mono HB.out.size))
            have HW2 := Lib.hid hW2
            obtain ⟨p4, c4, rfl⟩ := ws_len hW2
            clear hW2 hB2
            go_wp2_with fail
            go_roundw
            case rel => exact ⟨k + 1, by omega, by go_num, by rw [HS.out]; exact HW2.out, HB2.out⟩
            case measure => simp [intOf]; omega
        · cases bx <;> cases by_
          · go_wp2_with fail
            go_roundw
            case rel => exact ⟨k + 1, by omega, by go_num, by rw [HS.out]; exact HLo.out, HB.out⟩
            case measure => simp [intOf]; omega
          · go_wp2_with fail
            go_roundw
            case rel => exact ⟨k + 1, by omega, by go_num, by rw [HS.out]; exact HLo.out, HB.out⟩
            case measure => simp [intOf]; omega
          · go_wp2_with fail
            refine HW.out.mono ?_
            rintro e w2 ⟨u2, rfl, hW2, hB2⟩
            have HB2 := Lib.hid (HB.out.trans (hB2.mono HB.out.size))
            have HW2 := Lib.hid hW2
            obtain ⟨p4, c4, rfl⟩ := ws_len hW2
            clear hW2 hB2
            go_wp2_with fail
            go_roundw
            case rel => exact ⟨k + 1, by omega, by go_num, by rw [HS.out]; exact HW2.out, HB2.out⟩
            case measure => simp [intOf]; omega
          · go_wp2_with fail
            go_roundw
            case rel => exact ⟨k + 1, by omega, by go_num, by rw [HS.out]; exact HLo.out, HB.out⟩
            case measure => simp [intOf]; omega
      · obtain rfl : k = 64 * xs.length := by omega
        have HLo2 := Lib.hid (show Ws wr (Value.slice p3 xs.length c3) (bothF c xs ys (64 * max xs.length ys.length)) by rw [HN.out]; exact HLo.out)
        go_wp2_with fail
        go_ret
        exact ⟨_, rfl, HLo2.out, HB.out⟩
  · go_wp2_with fail
    have HN := Lib.hid (show max xs.length ys.length = ys.length by omega)
    clear hmk hmk1 hmk2
    go_loopw [7, 8] (fun u i wr => ∃ k : Nat, k ≤ 64 * ys.length ∧ i = .int .i64 k ∧ Ws wr u (bothF c xs ys k) ∧ Below w.heap.size w wr)
      (fun _ i _ => 64 * ys.length - (intOf i).toNat)
    case atStart => exact ⟨0, Nat.zero_le _, rfl, by unfold bothF; rw [HN.out, ← Array.toArray_toList (xs := Array.replicate ys.length (Value.int IntKind.u64 0)), Array.toList_replicate, ← u64s_zero]; exact (Bk.new _ _ _).ws (by simp) (fun z hz => by rw [List.eq_of_mem_replicate hz]; decide), (Below.refl _ _).alloc (Nat.le_refl _) _⟩
    case round =>
      obtain ⟨k, hk, rfl, hl, hB⟩ := hrel
      have HL := Lib.hid hl
      have HB := Lib.hid hB
      obtain ⟨p3, c3, rfl⟩ := ws_len hl
      have hlen : (bothF c xs ys k).length = ys.length := by rw [bothF_len]; exact HN.out
      have HLo := Lib.hid (show Ws wr (Value.slice p3 ys.length c3) (bothF c xs ys k) by rw [← hlen]; exact HL.out)
      rw [hlen]
      clear hl hB
      by_cases hlt : k < 64 * ys.length
      · have H1r := Lib.hid (H1.out.below HB.out)
        have H2r := Lib.hid (H2.out.below HB.out)
        have HS := Lib.hid (show bothF c xs ys (k + 1) = if c (hasE xs (k : Nat)) (hasE ys (k : Nat)) = true then withE (bothF c xs ys k) k else bothF c xs ys k from rfl)
        have HW := Lib.hid (with_any k _ (bothF c xs ys k) wr HLo.out (by rw [hlen]; omega) (by rw [hlen]; omega))
        have HLen := Lib.hid hlen
        clear hlen
        generalize bothF c xs ys k = zs at *
        go_wp2_with fail
        refine (rhas_any k _ _ _ H1r.out (by omega)).mono ?_
        rintro e w1 ⟨rfl, hww⟩
        subst w1
        generalize hasE xs (k : Nat) = bx at *
        go_wp2_with fail
        refine (rhas_any k _ _ _ H2r.out (by omega)).mono ?_
        rintro e w1 ⟨rfl, hww⟩
        subst w1
        generalize hasE ys (k : Nat) = by_ at *
        rcases HH.out with ⟨rfl, rfl⟩ | ⟨rfl, rfl⟩ | ⟨rfl, rfl⟩
        · cases bx <;> cases by_
          · go_wp2_with fail
            go_roundw
            case rel => exact ⟨k + 1, by omega, by go_num, by rw [HS.out]; exact HLo.out, HB.out⟩
            case measure => simp [intOf]; omega
          · go_wp2_with fail
            refine HW.out.mono ?_
            rintro e w2 ⟨u2, rfl, hW2, hB2⟩
            have HB2 := Lib.hid (HB.out.trans (hB2.mono HB.out.size))
            have HW2 := Lib.hid hW2
            obtain ⟨p4, c4, rfl⟩ := ws_len hW2
            clear hW2 hB2
            go_wp2_with fail
            go_roundw
            case rel => exact ⟨k + 1, by omega, by go_num, by rw [HS.out]; exact HW2.out, HB2.out⟩
            case measure => simp [intOf]; omega
          · go_wp2_with fail
            refine HW.out.mono ?_
            rintro e w2 ⟨u2, rfl, hW2, hB2⟩
            have HB2 := Lib.hid (HB.out.trans (hB2.mono HB.out.size))
            have HW2 := Lib.hid hW2
            obtain ⟨p4, c4, rfl⟩ := ws_len hW2
            clear hW2 hB2
            go_wp2_with fail
            go_roundw
            case rel => exact ⟨k + 1, by omega, by go_num, by rw [HS.out]; exact HW2.out, HB2.out⟩
            case measure => simp [intOf]; omega
          · go_wp2_with fail
            refine HW.out.mono ?_
            rintro e w2 ⟨u2, rfl, hW2, hB2⟩
            have HB2 := Lib.hid (HB.out.trans (hB2.mono HB.out.size))
            have HW2 := Lib.hid hW2
            obtain ⟨p4, c4, rfl⟩ := ws_len hW2
            clear hW2 hB2
            go_wp2_with fail
            go_roundw
            case rel => exact ⟨k + 1, by omega, by go_num, by rw [HS.out]; exact HW2.out, HB2.out⟩
            case measure => simp [intOf]; omega
        · cases bx <;> cases by_
          · go_wp2_with fail
            go_roundw
            case rel => exact ⟨k + 1, by omega, by go_num, by rw [HS.out]; exact HLo.out, HB.out⟩
            case measure => simp [intOf]; omega
          · go_wp2_with fail
            go_roundw
            case rel => exact ⟨k + 1, by omega, by go_num, by rw [HS.out]; exact HLo.out, HB.out⟩
            case measure => simp [intOf]; omega
          · go_wp2_with fail
            go_roundw
            case rel => exact ⟨k + 1, by omega, by go_num, by rw [HS.out]; exact HLo.out, HB.out⟩
            case measure => simp [intOf]; omega
          · go_wp2_with fail
            refine HW.out.mono ?_
            rintro e w2 ⟨u2, rfl, hW2, hB2⟩
            have HB2 := Lib.hid (HB.out.trans (hB2.mono HB.out.size))
            have HW2 := Lib.hid hW2
            obtain ⟨p4, c4, rfl⟩ := ws_len hW2
            clear hW2 hB2
            go_wp2_with fail
            go_roundw
            case rel => exact ⟨k + 1, by omega, by go_num, by rw [HS.out]; exact HW2.out, HB2.out⟩
            case measure => simp [intOf]; omega
        · cases bx <;> cases by_
          · go_wp2_with fail
            go_roundw
            case rel => exact ⟨k + 1, by omega, by go_num, by rw [HS.out]; exact HLo.out, HB.out⟩
            case measure => simp [intOf]; omega
          · go_wp2_with fail
            go_roundw
            case rel => exact ⟨k + 1, by omega, by go_num, by rw [HS.out]; exact HLo.out, HB.out⟩
            case measure => simp [intOf]; omega
          · go_wp2_with fail
            refine HW.out.mono ?_
            rintro e w2 ⟨u2, rfl, hW2, hB2⟩
            have HB2 := Lib.hid (HB.out.trans (hB2.mono HB.out.size))
            have HW2 := Lib.hid hW2
            obtain ⟨p4, c4, rfl⟩ := ws_len hW2
            clear hW2 hB2
            go_wp2_with fail
            go_roundw
            case rel => exact ⟨k + 1, by omega, by go_num, by rw [HS.out]; exact HW2.out, HB2.out⟩
            case measure => simp [intOf]; omega
          · go_wp2_with fail
            go_roundw
            case rel => exact ⟨k + 1, by omega, by go_num, by rw [HS.out]; exact HLo.out, HB.out⟩
            case measure => simp [intOf]; omega
      · obtain rfl : k = 64 * ys.length := by omega
        have HLo2 := Lib.hid (show Ws wr (Value.slice p3 ys.length c3) (bothF c xs ys (64 * max xs.length ys.length)) by rw [HN.out]; exact HLo.out)
        go_wp2_with fail
        go_ret
        exact ⟨_, rfl, HLo2.out, HB.out⟩


end Go.Proofs.Ytfeipfemknnhhaa

namespace Go.Proofs.Ytfeipfemknnhhaa
open Go.RowKit

set_option maxHeartbeats 3200000 in
set_option maxRecDepth 100000 in
theorem rsetof_any (width : Int) (v : Value) (l : List Int) (w : World) (hl : IntsAt w v l) (hn : l.length ≤ 1000000) :
    Calls Try.prog 126 #[.int .i64 width, v] w fun e w' => ∃ u, e = .returned u ∧ Ws w' u (ofE width l) ∧ Below w.heap.size w w' := by
  have hs := sizeE_le width
  have hmk := make_u64 (sizeE width) ((near width + 63) / 64) (by rw [sizeE_int]) (by omega)
  obtain ⟨o, c, rfl, hc⟩ := hl
  have H1 := Lib.hid hc
  clear hc
  go_enter Try.func126, Try.ntmps126
  go_wp2_with (go_at_call 78; refine (rsize_any _ _).mono ?_; rintro e w1 ⟨rfl, hw1⟩; subst w1)
  clear hmk
  go_loopw [5, 13] (fun u i wr => ∃ k : Nat, k ≤ l.length ∧ i = .int .i64 k ∧ Ws wr u (ofK width l k) ∧ Below w.heap.size w wr)
    (fun _ i _ => l.length - (intOf i).toNat)
  case atStart =>
    refine ⟨0, Nat.zero_le _, rfl, ?_, (Below.refl _ _).alloc (Nat.le_refl _) _⟩
    rw [show ofK width l 0 = List.replicate (sizeE width) 0 from rfl, ← Array.toArray_toList (xs := Array.replicate (sizeE width) (Value.int IntKind.u64 0)), Array.toList_replicate, ← u64s_zero]
    exact (Bk.new _ _ _).ws (by simp) (fun z hz => by rw [List.eq_of_mem_replicate hz]; decide)
  case round =>
    obtain ⟨k, hk, rfl, hl, hB⟩ := hrel
    have HB := Lib.hid hB
    obtain ⟨p3, c3, rfl⟩ := ws_len hl
    have hlen := ofK_len width l k
    have HL := Lib.hid (show Ws wr (Value.slice p3 (sizeE width) c3) (ofK width l k) by rw [← hlen]; exact hl)
    rw [hlen]
    clear hl hB hlen
    by_cases hlt : k < l.length
    · obtain ⟨bb, off, rfl, q⟩ := H1.out (by omega)
      have hck := keepc (q k hlt) HB.out
      have HE := Lib.hid (ofK_succ width l k hlt)
      clear q
      generalize l[k]?.getD 0 = n at *
      by_cases h0 : 0 ≤ n
      · obtain ⟨m, rfl⟩ : ∃ m : Nat, n = m := ⟨n.toNat, by omega⟩
        go_wp2_with fail
        refine (width_any width _).mono ?_
        rintro e w1 ⟨rfl, hww⟩
        subst w1
        have HN := Lib.hid (near_bd width)
        by_cases h1 : (m : Int) < near width
        · have HS := Lib.hid (show ofK width l (k + 1) = withE (ofK width l k) m by rw [HE.out]; unfold ofStep; rw [if_pos ⟨by omega, h1⟩, Int.toNat_natCast])
          have hq : m / 64 < (ofK width l k).length := by have := sizeE_int width; rw [ofK_len]; omega
          have HWi := Lib.hid (with_any m _ (ofK width l k) wr HL.out hq (by rw [ofK_len]; omega))
          clear hq
          go_wp2_with fail
          refine HWi.out.mono ?_
          rintro e w2 ⟨u2, rfl, hW2, hB2⟩
          have HB2 := Lib.hid (HB.out.trans (hB2.mono HB.out.size))
          have HW2 := Lib.hid hW2
          rw [← HS.out] at HW2
          obtain ⟨p4, c4, rfl⟩ := ws_len hW2
          clear hW2 hB2
          go_wp2_with fail
          go_roundw
          case rel => exact ⟨k + 1, by omega, by go_num, HW2.out, HB2.out⟩
          case measure => simp [intOf]; omega
        · have HS := Lib.hid (show ofK width l (k + 1) = ofK width l k by rw [HE.out]; unfold ofStep; rw [if_neg (by omega)])
          have HK2 := HL
          rw [← HS.out] at HK2
          go_wp2_with fail
          go_roundw
          case rel => exact ⟨k + 1, by omega, by go_num, HK2.out, HB.out⟩
          case measure => simp [intOf]; omega
      · have HS := Lib.hid (show ofK width l (k + 1) = ofK width l k by rw [HE.out]; unfold ofStep; rw [if_neg (by omega)])
        have HK2 := HL
        rw [← HS.out] at HK2
        go_wp2_with fail
        go_roundw
        case rel => exact ⟨k + 1, by omega, by go_num, HK2.out, HB.out⟩
        case measure => simp [intOf]; omega
    · obtain rfl : k = l.length := by omega
      have HL2 := HL
      rw [show ofK width l l.length = ofE width l by unfold ofK ofE; rw [List.take_length]] at HL2
      go_wp2_with fail
      go_ret
      exact ⟨_, rfl, HL2.out, HB.out⟩

set_option maxHeartbeats 1600000 in
set_option maxRecDepth 100000 in
theorem fits_any (width : Int) (v : Value) (zs : List Nat) (w : World) (hw : Ws w v zs) (hx : zs.length ≤ 1000) :
    Calls Try.prog 82 #[v, .int .i64 width] w fun e w' => e = .returned (.bool (fitsE zs width)) ∧ Below w.heap.size w w' := by
  have hs := sizeE_le width
  have HZ := Lib.hid hw.1
  have H1 := Lib.hid hw
  obtain ⟨p, c, rfl⟩ := ws_len hw
  have B0 := Lib.hid (Below.refl w.heap.size w)
  clear hw
  by_cases hl : zs.length = sizeE width
  · have HR := Lib.hid (show fitsE zs width = subE zs (fullE width) by unfold fitsE; rw [fits_eq zs width HZ.out hl, decide_eq_true hl, Bool.true_and])
    have hb : ((zs.length : Int) == (near width + 63) / 64) = true := by rw [sizeE_int]; simp; omega
    clear hl
    go_enter Try.func82, Try.ntmps82
    go_wp2_with fail
    refine (size_any _ _).mono ?_
    rintro e w1 ⟨rfl, hww⟩
    subst w1
    go_wp2_with fail
    refine (full_any width w).mono ?_
    rintro e w3 ⟨u, rfl, hW, hB⟩
    have HW3 := Lib.hid hW
    have H3 := Lib.hid (H1.out.below hB)
    have B3 := Lib.hid hB
    obtain ⟨p3, c3, rfl⟩ := ws_len hW
    have hfl : (fullE width).length ≤ 16 := by rw [fullE_len]; exact hs
    clear hW hB
    go_wp2_with fail
    refine (within_any _ _ zs (fullE width) _ H3.out HW3.out (by omega) (by omega)).mono ?_
    rintro e w4 ⟨rfl, hB⟩
    have B4 := Lib.hid (B3.out.trans (hB.mono B3.out.size))
    clear hB
    have HR2 := Lib.hid (show (lenE (bothE minN zs (fullE width)) == 0) = fitsE zs width from HR.out.symm)
    rw [HR2.out]
    go_wp2_with fail
    go_ret
    exact ⟨rfl, B4.out⟩
  · have HR := Lib.hid (show fitsE zs width = false by unfold fitsE; rw [decide_eq_false hl, Bool.false_and])
    have hb : ((zs.length : Int) == (near width + 63) / 64) = false := by rw [sizeE_int]; simp; omega
    go_enter Try.func82, Try.ntmps82
    go_wp2_with fail
    refine (size_any _ _).mono ?_
    rintro e w1 ⟨rfl, hww⟩
    subst w1
    go_wp2_with fail
    go_ret
    exact ⟨ret_bool HR.out.symm, B0.out⟩

set_option maxHeartbeats 1600000 in
set_option maxRecDepth 100000 in
theorem rfits_any (width : Int) (v : Value) (zs : List Nat) (w : World) (hw : Ws w v zs) (hx : zs.length ≤ 1000) :
    Calls Try.prog 66 #[v, .int .i64 width] w fun e w' => e = .returned (.bool (fitsE zs width)) ∧ Below w.heap.size w w' := by
  have hs := sizeE_le width
  have H1 := Lib.hid hw
  obtain ⟨p, c, rfl⟩ := ws_len hw
  have B0 := Lib.hid (Below.refl w.heap.size w)
  clear hw
  by_cases hl : zs.length = sizeE width
  · have hb : ((zs.length : Int) != (near width + 63) / 64) = false := by rw [sizeE_int]; simp; omega
    have HF := Lib.hid (show (∀ n, n < 64 * zs.length → near width ≤ (n : Int) → hasE zs (n : Nat) = false) → fitsE zs width = true from fun h => by unfold fitsE; rw [decide_eq_true hl, Bool.true_and]; exact decide_eq_true h)
    have HG := Lib.hid (show ∀ n, n < 64 * zs.length → near width ≤ (n : Int) → hasE zs (n : Nat) = true → fitsE zs width = false from fun n h1 h2 h3 => by
      unfold fitsE; rw [decide_eq_true hl, Bool.true_and]; refine decide_eq_false fun h => ?_
      have := h n h1 h2
      rw [h3] at this; cases this)
    have HLn := Lib.hid hl
    clear hl
    go_enter Try.func66, Try.ntmps66
    go_wp2_with fail
    refine (rsize_any _ _).mono ?_
    rintro e w1 ⟨rfl, hww⟩
    subst w1
    go_wp2_with fail
    refine (width_any _ _).mono ?_
    rintro e w1 ⟨rfl, hww⟩
    subst w1
    obtain ⟨W, hW⟩ : ∃ W : Nat, near width = W := ⟨(near width).toNat, by have := near_bd width; omega⟩
    have HW := Lib.hid hW
    have hwb : W ≤ 64 * zs.length := by have := sizeE_int width; have := HLn.out; omega
    rw [hW] at HF HG
    clear hb hW
    go_wp2_with fail
    go_loopw [5] (fun i wr => ∃ k : Nat, W ≤ k ∧ k ≤ 64 * zs.length ∧ i = .int .i64 k ∧ Hid (∀ n, n < k → (W : Int) ≤ (n : Int) → hasE zs (n : Nat) = false) ∧ wr = w)
      (fun i _ => 64 * zs.length - (intOf i).toNat)
    case atStart => exact ⟨W, Nat.le_refl _, hwb, by rw [HW.out], Lib.hid (fun n h1 h2 => by omega), rfl⟩
    case round =>
      obtain ⟨k, hWk, hk, rfl, HA, rfl⟩ := hrel
      by_cases hlt : k < 64 * zs.length
      · have HS := Lib.hid (show hasE zs (k : Nat) = false → ∀ n, n < k + 1 → (W : Int) ≤ (n : Int) → hasE zs (n : Nat) = false from fun e n h1 h2 => by
          rcases (show n < k ∨ n = k by omega) with h | rfl
          · exact HA.out n h h2
          · exact e)
        have HG2 := Lib.hid (HG.out k hlt (by omega))
        go_wp2_with fail
        refine (rhas_any k _ _ _ H1.out (by omega)).mono ?_
        rintro e w1 ⟨rfl, hww⟩
        subst w1
        cases hb : hasE zs (k : Nat) with
        | false =>
          have HS2 := Lib.hid (HS.out hb)
          clear hb
          go_wp2_with fail
          go_roundw
          case rel => exact ⟨k + 1, by omega, by omega, by go_num, HS2, trivial⟩
          case measure => simp [intOf]; omega
        | true =>
          have HG3 := Lib.hid (HG2.out hb)
          clear hb
          go_wp2_with fail
          go_ret
          exact ⟨ret_bool HG3.out.symm, B0.out⟩
      · obtain rfl : k = 64 * zs.length := by omega
        have HF2 := Lib.hid (HF.out HA.out)
        go_wp2_with fail
        go_ret
        exact ⟨ret_bool HF2.out.symm, B0.out⟩
  · have HR := Lib.hid (show fitsE zs width = false by unfold fitsE; rw [decide_eq_false hl, Bool.false_and])
    have hb : ((zs.length : Int) != (near width + 63) / 64) = true := by rw [sizeE_int]; simp; omega
    go_enter Try.func66, Try.ntmps66
    go_wp2_with fail
    refine (rsize_any _ _).mono ?_
    rintro e w1 ⟨rfl, hww⟩
    subst w1
    go_wp2_with fail
    go_ret
    exact ⟨ret_bool HR.out.symm, B0.out⟩

end Go.Proofs.Ytfeipfemknnhhaa

namespace Go.Proofs.Ytfeipfemknnhhaa
open Go.RowKit

/-- The first k words made, and nothing behind. -/
def madeK (f : Nat → Nat) (n k : Nat) : List Nat := (List.range n).map fun i => if i < k then f i else 0
theorem madeK_zero (f : Nat → Nat) (n : Nat) : madeK f n 0 = List.replicate n 0 := by
  refine List.ext_getElem (by simp [madeK]) fun i h1 h2 => ?_
  simp [madeK]
theorem madeK_len (f : Nat → Nat) (n k : Nat) : (madeK f n k).length = n := by simp [madeK]
theorem madeK_step (f : Nat → Nat) (n k : Nat) : (madeK f n k).set k (f k) = madeK f n (k + 1) := by
  refine List.ext_getElem (by simp [madeK]) fun i h1 h2 => ?_
  rw [List.getElem_set]
  by_cases hk : k = i
  · subst hk; simp [madeK]
  · rw [if_neg hk]
    simp only [madeK, List.getElem_map, List.getElem_range]
    by_cases hik : i < k
    · rw [if_pos hik, if_pos (by omega)]
    · rw [if_neg hik, if_neg (by omega)]
theorem madeK_all (f : Nat → Nat) (n : Nat) : madeK f n n = (List.range n).map f := by
  unfold madeK
  exact List.map_congr_left fun i hi => if_pos (List.mem_range.1 hi)
theorem made_lt {f : Nat → Nat} {n : Nat} (h : ∀ i, i < n → f i < 18446744073709551616) : ∀ z ∈ (List.range n).map f, z < 18446744073709551616 := fun z hz => by
  obtain ⟨i, hi, rfl⟩ := List.mem_map.1 hz
  exact h i (List.mem_range.1 hi)
theorem zeros_bk (w : World) (n : Nat) : Bk (w.alloc (.cells (List.replicate n (Value.int .u64 0)).toArray 41)) w.heap.size 41 (u64s (List.replicate n 0)) := by
  rw [u64s_zero]; exact Bk.new _ _ _
theorem zeros_bk' (w : World) (n : Nat) : Bk (w.alloc (.cells (Array.replicate n (Value.int .u64 0)) 41)) w.heap.size 41 (u64s (List.replicate n 0)) := by
  have := zeros_bk w n
  rwa [List.toArray_replicate] at this
theorem zeros_lt (n : Nat) : ∀ z ∈ List.replicate n 0, z < 18446744073709551616 := fun z hz => by rw [List.eq_of_mem_replicate hz]; decide

set_option maxHeartbeats 3200000 in
set_option maxRecDepth 100000 in
theorem mkwords_any (F : FuncId) (lb : Array Value) (f : Nat → Nat) (what width : Int) (w : World)
    (el : ∀ args w, (callFunc F args).run Try.prog w = .ok (.enter F args) w)
    (hf : ∀ i w1, i < wordsN what width → Below w.heap.size w w1 → Calls Try.prog F (#[.int .i64 (i : Nat)] ++ lb) w1 fun e w' => e = .returned (.int .u64 (f i : Nat)) ∧ Below w1.heap.size w1 w')
    (hb : ∀ i, i < wordsN what width → f i < 18446744073709551616) :
    Calls Try.prog 123 #[.int .i64 what, .int .i64 width, .func (.func F) #[] lb] w fun e w' => ∃ v, e = .returned v ∧ Ws w' v ((List.range (wordsN what width)).map f) ∧ Below w.heap.size w w' := by
  have hn := wordsN_le what width
  have hmk := make_u64 (wordsN what width) (wordsN what width) rfl (by omega)
  have HF := Lib.hid hf
  have HBd := Lib.hid hb
  clear hf hb
  go_enter Try.func123, Try.ntmps123
  go_wp2_with fail
  refine (lwords_any _ _ _).mono ?_
  rintro e w1 ⟨rfl, hww⟩
  subst w1
  go_wp2_with fail
  clear hmk
  obtain ⟨n, hne⟩ : ∃ n, n = wordsN what width := ⟨_, rfl⟩
  have HNE := Lib.hid hne
  rw [← hne] at hn HF HBd ⊢
  clear hne
  go_loopw [15] (fun i wr => ∃ k : Nat, k ≤ n ∧ i = .int .i64 k ∧ Bk wr w.heap.size 41 (u64s (madeK f n k)) ∧ Below w.heap.size w wr)
    (fun i _ => n - (intOf i).toNat)
  case atStart => exact ⟨0, Nat.zero_le _, rfl, by rw [madeK_zero]; first | exact zeros_bk' _ _ | exact zeros_bk _ _, (Below.refl _ _).alloc (Nat.le_refl _) _⟩
  case round =>
    obtain ⟨k, hk, rfl, hbk, hB⟩ := hrel
    have HK := Lib.hid hbk
    have HB := Lib.hid hB
    clear hbk hB
    by_cases hlt : k < n
    · have HC := Lib.hid (HF.out k wr hlt HB.out)
      go_wp2_with fail
      refine HC.out.mono ?_
      rintro e w2 ⟨rfl, hB2⟩
      have HB2 := Lib.hid (HB.out.trans (hB2.mono HB.out.size))
      have HK2 := Lib.hid (HK.out.below hB2)
      have hcell : w2.cell? ⟨w.heap.size, k, none⟩ = some (.int .u64 (wAt (madeK f n k) k : Nat)) := by
        rw [HK2.out.cell, u64s_at _ _ (by rw [madeK_len]; exact hlt)]
      have hfree := HK2.out.free k
      have HBk := Lib.hid (HK2.out.set k (.int .u64 (f k : Nat)))
      rw [← u64s_set, madeK_step] at HBk
      generalize wAt (madeK f n k) k = z at *
      clear hB2
      go_wp2_with fail
      go_roundw
      case rel => exact ⟨k + 1, by omega, by go_num, HBk.out, HB2.out.setCell (p := ⟨w.heap.size, k, none⟩) (Nat.le_refl _) _⟩
      case measure => simp [intOf]; omega
    · obtain rfl : k = n := by omega
      have HK2 := HK
      rw [madeK_all] at HK2
      go_wp2_with fail
      go_ret
      exact ⟨_, rfl, by rw [← HNE.out]; exact HK2.out.ws (by simp) (made_lt HBd.out), HB.out⟩

set_option maxHeartbeats 1600000 in
set_option maxRecDepth 100000 in
theorem bottom_any (what width : Int) (w : World) :
    Calls Try.prog 51 #[.int .i64 what, .int .i64 width] w fun e w' => ∃ v, e = .returned v ∧ Ws w' v (bottomE what width) ∧ Below w.heap.size w w' := by
  have hn := wordsN_le what width
  have hmk := make_u64 (wordsN what width) (wordsN what width) rfl (by omega)
  have rest : ∀ h : bottomE what width = List.replicate (wordsN what width) 0, Ws (w.alloc (.cells (Array.replicate (wordsN what width) (Value.int .u64 0)) 41)) (.slice (some ⟨w.heap.size, 0, none⟩) (wordsN what width) (wordsN what width)) (bottomE what width) := fun h => by
    rw [h]; exact (zeros_bk' w _).ws List.length_replicate (zeros_lt _)
  have HR := Lib.hid rest
  have HB0 := Lib.hid ((Below.refl w.heap.size w).alloc (Nat.le_refl _) (.cells (Array.replicate (wordsN what width) (Value.int .u64 0)) 41))
  clear rest
  by_cases h2 : what = 2
  · subst h2
    go_enter Try.func51, Try.ntmps51
    go_wp2_with fail
    refine (lis_any _ _ _).mono ?_
    rintro e w1 ⟨rfl, hww⟩
    subst w1
    cases hL : isL 2 width with
    | true =>
      have H := Lib.hid (show bottomE 2 width = fullE width by unfold bottomE; rw [if_pos ⟨rfl, hL⟩])
      clear hL
      go_wp2_with fail
      refine (full_any _ _).mono ?_
      rintro e w3 ⟨u, rfl, hW, hB⟩
      have HW := Lib.hid hW
      have HB := Lib.hid hB
      obtain ⟨p3, c3, rfl⟩ := ws_len hW
      clear hW hB
      go_wp2_with fail
      go_ret
      exact ⟨_, rfl, by rw [H.out]; exact HW.out, HB.out⟩
    | false =>
      have H := Lib.hid (show bottomE 2 width = List.replicate (wordsN 2 width) 0 by unfold bottomE; rw [hL, if_neg (by simp)])
      clear hL
      go_wp2_with fail
      refine (lwords_any _ _ _).mono ?_
      rintro e w1 ⟨rfl, hww⟩
      subst w1
      go_wp2_with fail
      go_ret
      exact ⟨_, rfl, HR.out H.out, HB0.out⟩
  · have H := Lib.hid (show bottomE what width = List.replicate (wordsN what width) 0 by unfold bottomE; rw [if_neg (by omega)])
    have e2 : (what == 2) = false := by simpa using h2
    clear h2
    go_enter Try.func51, Try.ntmps51
    go_wp2_with fail
    refine (lwords_any _ _ _).mono ?_
    rintro e w1 ⟨rfl, hww⟩
    subst w1
    go_wp2_with fail
    go_ret
    exact ⟨_, rfl, HR.out H.out, HB0.out⟩



end Go.Proofs.Ytfeipfemknnhhaa

namespace Go.Proofs.Ytfeipfemknnhhaa
open Go.RowKit

theorem souN_is (x : Nat) : (isn (x : Int) || decide ((x : Int) = 0 ∨ (x : Int) = 1)) = souN x := by
  unfold souN sou
  by_cases h : isn (x : Int) = true
  · rw [h, if_pos rfl]; simp
  · rw [if_neg h, Bool.eq_false_iff.2 h, Bool.false_or]
    rw [Bool.eq_iff_iff, decide_eq_true_eq, beq_iff_eq]
    split <;> omega
theorem all_at {p : Nat → Bool} {a : List Nat} (h : ∀ i, i < a.length → p (wAt a i) = true) : a.all p = true := by
  rw [List.all_eq_true]
  intro z hz
  obtain ⟨i, hi, rfl⟩ := List.getElem_of_mem hz
  have := h i hi
  unfold wAt at this
  rwa [List.getElem?_eq_getElem hi] at this
theorem all_not {p : Nat → Bool} {a : List Nat} {i : Nat} (hi : i < a.length) (h : p (wAt a i) = false) : a.all p = false := by
  rw [Bool.eq_false_iff]
  intro h2
  rw [List.all_eq_true] at h2
  have := h2 _ (List.getElem_mem hi)
  unfold wAt at h
  rw [List.getElem?_eq_getElem hi] at h
  rw [show (some a[i]).getD 0 = a[i] from rfl] at h
  rw [h] at this; cases this

set_option maxHeartbeats 3200000 in
set_option maxRecDepth 100000 in
theorem lval_any (what width : Int) (v : Value) (a : List Nat) (w : World) (hw : Ws w v a) (hx : a.length ≤ 100000) :
    Calls Try.prog 50 #[.int .i64 what, .int .i64 width, v] w fun e w' => e = .returned (.bool (valueE what width a)) ∧ Below w.heap.size w w' := by
  have hn := wordsN_le what width
  have HZ := Lib.hid hw.1
  have HW := Lib.hid hw
  obtain ⟨p, c, rfl, hc⟩ := ws_row hw
  have HC := Lib.hid hc
  have B0 := Lib.hid (Below.refl w.heap.size w)
  clear hw hc
  go_enter Try.func50, Try.ntmps50
  go_wp2_with fail
  refine (lis_any _ _ _).mono ?_
  rintro e w1 ⟨rfl, hww⟩
  subst w1
  cases hL : isL what width with
  | false =>
    have H := Lib.hid (show valueE what width a = false by unfold valueE; rw [hL]; rfl)
    clear hL
    go_wp2_with fail
    go_ret
    exact ⟨ret_bool H.out.symm, B0.out⟩
  | true =>
    have HL := Lib.hid hL
    clear hL
    go_wp2_with fail
    refine (lwords_any _ _ _).mono ?_
    rintro e w1 ⟨rfl, hww⟩
    subst w1
    by_cases hl : a.length = wordsN what width
    · have hb : ((a.length : Int) != ((wordsN what width : Nat) : Int)) = false := by simp; omega
      have Hl := Lib.hid hl
      clear hl
      by_cases h3 : what = 3
      · subst h3
        have H1 := Lib.hid (show (∀ i, i < a.length → souN (wAt a i) = true) → valueE 3 width a = true from fun h => by
          unfold valueE; rw [HL.out, decide_eq_true Hl.out, if_pos rfl, all_at h]; rfl)
        have H0 := Lib.hid (show ∀ i, i < a.length → souN (wAt a i) = false → valueE 3 width a = false from fun i hi h => by
          unfold valueE; rw [if_pos rfl, all_not hi h]; simp)
        go_wp2_with fail
        go_loopw [28] (fun i wr => ∃ k : Nat, k ≤ a.length ∧ i = .int .i64 k ∧ Hid (∀ i, i < k → souN (wAt a i) = true) ∧ Below w.heap.size w wr)
          (fun i _ => a.length - (intOf i).toNat)
        case atStart => exact ⟨0, Nat.zero_le _, rfl, Lib.hid (fun i h => by omega), B0.out⟩
        case round =>
          obtain ⟨k, hk, rfl, HA, hB⟩ := hrel
          have HB := Lib.hid hB
          clear hB
          by_cases hlt : k < a.length
          · obtain ⟨ad, rfl, q⟩ := HC.out (by omega)
            have hck := keepc (q k hlt) HB.out
            rw [show a[k]?.getD 0 = wAt a k from rfl] at hck
            have H0k := Lib.hid (H0.out k hlt)
            have HS := Lib.hid (show souN (wAt a k) = true → ∀ i, i < k + 1 → souN (wAt a i) = true from fun e i hi => by
              rcases (show i < k ∨ i = k by omega) with h | rfl
              · exact HA.out i h
              · exact e)
            have hz := wAt_lt HZ.out k
            clear q
            generalize wAt a k = z at *
            go_wp2_with fail
            refine (is_any z _ (by omega)).mono ?_
            rintro e w2 ⟨rfl, hB2⟩
            have HB2 := Lib.hid (HB.out.trans (hB2.mono HB.out.size))
            clear hB2
            rw [souN_is]
            cases hs : souN z with
            | true =>
              have HS2 := Lib.hid (HS.out hs)
              clear hs
              go_wp2_with fail
              go_roundw
              case rel => exact ⟨k + 1, by omega, by go_num, HS2, HB2.out⟩
              case measure => simp [intOf]; omega
            | false =>
              have HV := Lib.hid (H0k.out hs)
              clear hs
              go_wp2_with fail
              go_ret
              exact ⟨ret_bool HV.out.symm, HB2.out⟩
          · obtain rfl : k = a.length := by omega
            have HV := Lib.hid (H1.out HA.out)
            go_wp2_with fail
            go_ret
            exact ⟨ret_bool HV.out.symm, HB.out⟩
      · have hne : (what != 3) = true := by simp; omega
        have HV := Lib.hid (show valueE what width a = fitsE a width by
          unfold valueE; rw [HL.out, decide_eq_true Hl.out, if_neg h3]; rfl)
        have hl16 : a.length ≤ 1000 := by
          have h1 := Hl.out
          have h2 : wordsN what width = sizeE width := by unfold wordsN; rw [if_pos HL.out, if_neg h3]
          have := sizeE_le width
          omega
        clear h3
        go_wp2_with fail
        refine (fits_any _ _ _ _ HW.out hl16).mono ?_
        rintro e w2 ⟨rfl, hB2⟩
        have HB2 := Lib.hid hB2
        clear hB2
        rw [← HV.out]
        go_wp2_with fail
        go_ret
        exact ⟨rfl, HB2.out⟩
    · have hb : ((a.length : Int) != ((wordsN what width : Nat) : Int)) = true := by simp; omega
      have HV := Lib.hid (show valueE what width a = false by unfold valueE; rw [decide_eq_false hl]; simp)
      clear hl
      go_wp2_with fail
      go_ret
      exact ⟨ret_bool HV.out.symm, B0.out⟩

/-! ### Lists of values -/
def lsAt (ls : List (List Nat)) (j : Nat) : List Nat := ls[j]?.getD []
/-- A slice of slices of words that reads as these lists. -/
def Sets (w : World) (v : Value) (ls : List (List Nat)) : Prop :=
  ∃ b c, v = .slice (some ⟨b, 0, none⟩) ls.length c ∧ ∀ j, j < ls.length → ∃ u, w.cell? ⟨b, j, none⟩ = some u ∧ Ws w u (lsAt ls j)
theorem Sets.below {w w' : World} {v : Value} {ls : List (List Nat)} (h : Sets w v ls) (k : Below w.heap.size w w') : Sets w' v ls := by
  obtain ⟨b, c, rfl, hc⟩ := h
  refine ⟨b, c, rfl, fun j hj => ?_⟩
  obtain ⟨u, h1, h2⟩ := hc j hj
  exact ⟨u, keepc h1 k, h2.below k⟩
theorem Sets.two {w : World} {u v : Value} {a b : List Nat} (t : TypeId) (hu : Ws w u a) (hv : Ws w v b) : Sets (w.alloc (.cells #[u, v] t)) (.slice (some ⟨w.heap.size, 0, none⟩) 2 2) [a, b] := by
  have hB : Below w.heap.size w (w.alloc (.cells #[u, v] t)) := (Below.refl _ _).alloc (Nat.le_refl _) _
  have h : Bk (w.alloc (.cells #[u, v] t)) w.heap.size t [u, v] := Bk.new _ _ _
  refine ⟨_, _, rfl, fun j hj => ?_⟩
  rcases j with _ | _ | j
  · exact ⟨u, by rw [h.cell]; rfl, hu.below hB⟩
  · exact ⟨v, by rw [h.cell]; rfl, hv.below hB⟩
  · simp at hj; omega
theorem Sets.one {w : World} {u : Value} {a : List Nat} (t : TypeId) (hu : Ws w u a) : Sets (w.alloc (.cells #[u] t)) (.slice (some ⟨w.heap.size, 0, none⟩) 1 1) [a] := by
  have hB : Below w.heap.size w (w.alloc (.cells #[u] t)) := (Below.refl _ _).alloc (Nat.le_refl _) _
  have h : Bk (w.alloc (.cells #[u] t)) w.heap.size t [u] := Bk.new _ _ _
  refine ⟨_, _, rfl, fun j hj => ?_⟩
  rcases j with _ | j
  · exact ⟨u, by rw [h.cell]; rfl, hu.below hB⟩
  · simp at hj
def checkE (what width : Int) (ls : List (List Nat)) : Int := if isL what width = true then (if ls.all (valueE what width) = true then 0 else 2) else 10

set_option maxHeartbeats 3200000 in
set_option maxRecDepth 100000 in
theorem check_any (what width : Int) (v : Value) (ls : List (List Nat)) (w : World) (hw : Sets w v ls) (hx : ∀ a ∈ ls, a.length ≤ 100000) (hn : ls.length ≤ 1000) :
    Calls Try.prog 32 #[.int .i64 what, .int .i64 width, v] w fun e w' => e = .returned (.int .i64 (checkE what width ls)) ∧ Below w.heap.size w w' := by
  obtain ⟨b, c, rfl, hc⟩ := hw
  have HX := Lib.hid hx
  have HC := Lib.hid hc
  have B0 := Lib.hid (Below.refl w.heap.size w)
  clear hc hx
  go_enter Try.func32, Try.ntmps32
  go_wp2_with fail
  refine (lis_any _ _ _).mono ?_
  rintro e w1 ⟨rfl, hww⟩
  subst w1
  cases hL : isL what width with
  | false =>
    have H := Lib.hid (show checkE what width ls = 10 by unfold checkE; rw [hL, if_neg (by decide)])
    clear hL
    go_wp2_with fail
    go_ret
    exact ⟨ret_int H.out.symm, B0.out⟩
  | true =>
    have H1 := Lib.hid (show (∀ j, j < ls.length → valueE what width (lsAt ls j) = true) → checkE what width ls = 0 from fun h => by
      unfold checkE; rw [hL, if_pos rfl, if_pos]
      rw [List.all_eq_true]
      intro z hz
      obtain ⟨i, hi, rfl⟩ := List.getElem_of_mem hz
      have := h i hi
      unfold lsAt at this
      rwa [List.getElem?_eq_getElem hi] at this)
    have H0 := Lib.hid (show ∀ j, j < ls.length → valueE what width (lsAt ls j) = false → checkE what width ls = 2 from fun j hj h => by
      unfold checkE; rw [hL, if_pos rfl, if_neg]
      rw [List.all_eq_true]
      intro h2
      have := h2 _ (List.getElem_mem hj)
      unfold lsAt at h
      rw [List.getElem?_eq_getElem hj] at h
      rw [show (some ls[j]).getD [] = ls[j] from rfl] at h
      rw [h] at this; cases this)
    clear hL
    go_wp2_with fail
    go_loopw [15] (fun i wr => ∃ k : Nat, k ≤ ls.length ∧ i = .int .i64 k ∧ Hid (∀ i, i < k → valueE what width (lsAt ls i) = true) ∧ Below w.heap.size w wr)
      (fun i _ => ls.length - (intOf i).toNat)
    case atStart => exact ⟨0, Nat.zero_le _, rfl, Lib.hid (fun i h => by omega), B0.out⟩
    case round =>
      obtain ⟨k, hk, rfl, HA, hB⟩ := hrel
      have HB := Lib.hid hB
      clear hB
      by_cases hlt : k < ls.length
      · obtain ⟨u, hu, hW⟩ := HC.out k hlt
        have hck := keepc hu HB.out
        have HW := Lib.hid (hW.below HB.out)
        have HXk := Lib.hid (show (lsAt ls k).length ≤ 100000 by
          have := HX.out _ (List.getElem_mem hlt)
          unfold lsAt; rw [List.getElem?_eq_getElem hlt]; exact this)
        have H0k := Lib.hid (H0.out k hlt)
        have HS := Lib.hid (show valueE what width (lsAt ls k) = true → ∀ i, i < k + 1 → valueE what width (lsAt ls i) = true from fun e i hi => by
          rcases (show i < k ∨ i = k by omega) with h | rfl
          · exact HA.out i h
          · exact e)
        obtain ⟨p3, c3, rfl⟩ := ws_len hW
        clear hu hW
        generalize lsAt ls k = a at *
        go_wp2_with fail
        refine (lval_any _ _ _ a _ HW.out HXk.out).mono ?_
        rintro e w2 ⟨rfl, hB2⟩
        have HB2 := Lib.hid (HB.out.trans (hB2.mono HB.out.size))
        clear hB2
        cases hs : valueE what width a with
        | true =>
          have HS2 := Lib.hid (HS.out hs)
          clear hs
          go_wp2_with fail
          go_roundw
          case rel => exact ⟨k + 1, by omega, by go_num, HS2, HB2.out⟩
          case measure => simp [intOf]; omega
        | false =>
          have HV := Lib.hid (H0k.out hs)
          clear hs
          go_wp2_with fail
          go_ret
          exact ⟨ret_int HV.out.symm, HB2.out⟩
      · obtain rfl : k = ls.length := by omega
        have HV := Lib.hid (H1.out HA.out)
        go_wp2_with fail
        go_ret
        exact ⟨ret_int HV.out.symm, HB.out⟩

end Go.Proofs.Ytfeipfemknnhhaa

namespace Go.Proofs.Ytfeipfemknnhhaa
open Go.RowKit

set_option maxHeartbeats 3200000 in
set_option maxRecDepth 100000 in
theorem join1_any (what : Int) (i : Nat) (g1 g2 g3 : Nat) (v1 v2 : Value) (a b : List Nat) (w : World) (hw : w.cell? ⟨g1, 0, none⟩ = some (.int .i64 what)) (ha : w.cell? ⟨g2, 0, none⟩ = some v1) (hb : w.cell? ⟨g3, 0, none⟩ = some v2)
    (h1 : Ws w v1 a) (h2 : Ws w v2 b) (hi : i < a.length) (hj : i < b.length) (hn : a.length ≤ 100000) (hm : b.length ≤ 100000) :
    Calls Try.prog 124 #[.int .i64 (i : Nat), .pointer (some ⟨g1, 0, none⟩), .pointer (some ⟨g2, 0, none⟩), .pointer (some ⟨g3, 0, none⟩)] w fun e w' => e = .returned (.int .u64 (wordE what (wAt a i) (wAt b i) : Nat)) ∧ Below w.heap.size w w' := by
  have hx := wAt_lt h1.1 i
  have hy := wAt_lt h2.1 i
  obtain ⟨p1, c1, rfl, q1⟩ := ws_row h1
  obtain ⟨p2, c2, rfl, q2⟩ := ws_row h2
  obtain ⟨a1, rfl, r1⟩ := q1 (by omega)
  obtain ⟨a2, rfl, r2⟩ := q2 (by omega)
  have e1 : w.cell? (a1.add i) = some (.int .u64 (wAt a i : Nat)) := r1 i hi
  have e2 : w.cell? (a2.add i) = some (.int .u64 (wAt b i : Nat)) := r2 i hj
  have H := Lib.hid (And.intro hw (And.intro ha (And.intro hb (And.intro e1 e2))))
  have hii : (i : Int) < a.length := by omega
  have hij : (i : Int) < b.length := by omega
  clear hw ha hb e1 e2 q1 q2 r1 r2 h1 h2
  generalize wAt a i = x at *
  generalize wAt b i = y at *
  go_enter Try.func124, Try.ntmps124
  go_wp2_with fail
  go_region_held3 (fun w' => w'.cell? ⟨g1, 0, none⟩ = some (.int .i64 what) ∧ w'.cell? ⟨g2, 0, none⟩ = some (.slice (some a1) a.length c1) ∧ w'.cell? ⟨g3, 0, none⟩ = some (.slice (some a2) b.length c2) ∧ w'.cell? (a1.add i) = some (.int .u64 (x : Nat)) ∧ w'.cell? (a2.add i) = some (.int .u64 (y : Nat)) ∧ Below w.heap.size w w')
    (first
      | exact ⟨H.out.1, H.out.2.1, H.out.2.2.1, H.out.2.2.2.1, H.out.2.2.2.2, (Below.refl _ _).drew⟩
      | (go_split_ands; exact ⟨keepc (by assumption) hB, keepc (by assumption) hB, keepc (by assumption) hB, keepc (by assumption) hB, keepc (by assumption) hB, bel_then (by assumption) hB⟩))
    (first
      | (go_at_call 33; refine (lword_any what x y _ hx hy).mono ?_; rintro e w' ⟨rfl, hB⟩))
  all_goals
    go_split_ands
    go_wp2_with fail
    go_ret
    exact ⟨rfl, by assumption⟩

theorem check_zero {what width : Int} {ls : List (List Nat)} (h : checkE what width ls = 0) : isL what width = true ∧ ∀ a ∈ ls, valueE what width a = true := by
  unfold checkE at h
  split at h
  · next hL =>
    split at h
    · next ha => exact ⟨hL, List.all_eq_true.1 ha⟩
    · omega
  · omega
theorem range_both (what : Int) {a b : List Nat} {n : Nat} (ha : a.length = n) (hb : b.length = n) : (List.range n).map (fun i => wordE what (wAt a i) (wAt b i)) = joinE what a b := by
  unfold joinE bothE
  rw [show max a.length b.length = n by omega]

set_option maxHeartbeats 3200000 in
set_option maxRecDepth 100000 in
theorem ljoin_any (what width : Int) (v1 v2 : Value) (a b : List Nat) (w : World) (h1 : Ws w v1 a) (h2 : Ws w v2 b) (hn : a.length ≤ 100000) (hm : b.length ≤ 100000) :
    Calls Try.prog 94 #[.int .i64 what, .int .i64 width, v1, v2] w fun e w' =>
      ∃ u, e = .returned (.tuple #[u, .int .i64 (checkE what width [a, b])]) ∧ Ws w' u (if checkE what width [a, b] = 0 then joinE what a b else []) ∧ Below w.heap.size w w' := by
  have H1 := Lib.hid h1
  have H2 := Lib.hid h2
  obtain ⟨p1, c1, rfl⟩ := ws_len h1
  obtain ⟨p2, c2, rfl⟩ := ws_len h2
  clear h1 h2
  go_enter Try.func94, Try.ntmps94
  go_wp2_with fail
  have K1 := Lib.hid ((((Bk.new w 3 [.int .i64 what]).alloc (.cells #[.slice p1 a.length c1] 24)).alloc (.cells #[.slice p2 b.length c2] 24)).alloc (.cells #[.slice p1 a.length c1, .slice p2 b.length c2] 24))
  have K2 := Lib.hid (((Bk.new' (w.alloc (.cells #[.int .i64 what] 3)) 24 [.slice p1 a.length c1] (g := w.heap.size + 1) (by simp)).alloc (.cells #[.slice p2 b.length c2] 24)).alloc (.cells #[.slice p1 a.length c1, .slice p2 b.length c2] 24))
  have K3 := Lib.hid ((Bk.new' ((w.alloc (.cells #[.int .i64 what] 3)).alloc (.cells #[.slice p1 a.length c1] 24)) 24 [.slice p2 b.length c2] (g := w.heap.size + 1 + 1) (by simp)).alloc (.cells #[.slice p1 a.length c1, .slice p2 b.length c2] 24))
  have B3 : Below w.heap.size w (((w.alloc (.cells #[.int .i64 what] 3)).alloc (.cells #[.slice p1 a.length c1] 24)).alloc (.cells #[.slice p2 b.length c2] 24)) :=
    (((Below.refl _ w).alloc (Nat.le_refl _) _).alloc (by simp) _).alloc (by simp; omega) _
  have hS := Sets.two 24 (H1.out.below B3) (H2.out.below B3)
  have B4 := Lib.hid (B3.alloc (by simp; omega) (.cells #[.slice p1 a.length c1, .slice p2 b.length c2] 24))
  simp only [World.size_alloc] at hS
  refine (check_any what width _ [a, b] _ hS (by simp; omega) (by simp)).mono ?_
  rintro e w5 ⟨rfl, hB⟩
  have B5 := Lib.hid (B4.out.trans (hB.mono B4.out.size))
  have K1 := Lib.hid (K1.out.below hB)
  have K2 := Lib.hid (K2.out.below hB)
  have K3 := Lib.hid (K3.out.below hB)
  have H1' := Lib.hid (H1.out.below B5.out)
  have H2' := Lib.hid (H2.out.below B5.out)
  clear hS hB B3 B4
  have HCE := Lib.hid (@check_zero what width [a, b])
  have hc1 := K1.out.cell 0
  have hc2 := K2.out.cell 0
  have hc3 := K3.out.cell 0
  by_cases h0 : checkE what width [a, b] = 0
  · have HZ0 := Lib.hid h0
    rw [h0]
    obtain ⟨hL, hv⟩ := HCE.out h0
    have va := value_len (hv a (by simp))
    have vb := value_len (hv b (by simp))
    have HR := Lib.hid (range_both what va vb)
    have la := Lib.hid va
    have lb := Lib.hid vb
    clear HCE hv hL h0 va vb
    go_wp2_with fail
    refine (mkwords_any 124 #[.pointer (some ⟨w.heap.size, 0, none⟩), .pointer (some ⟨w.heap.size + 1, 0, none⟩), .pointer (some ⟨w.heap.size + 1 + 1, 0, none⟩)] (fun i => wordE what (wAt a i) (wAt b i)) what width _ (enters_of Try.func124 (by kernel_rfl) rfl)
      (fun i w1 hi hB => by
        have := la.out
        have := lb.out
        exact join1_any what i _ _ _ _ _ a b w1 ((K1.out.below hB).cell 0) ((K2.out.below hB).cell 0) ((K3.out.below hB).cell 0) (H1'.out.below hB) (H2'.out.below hB) (by omega) (by omega) hn hm)
      (fun i _ => wordE_lt what _ _ (wAt_lt H1'.out.1 i) (wAt_lt H2'.out.1 i))).mono ?_
    rintro e w6 ⟨u, rfl, hW, hB⟩
    rw [HR.out] at hW
    have HW := Lib.hid hW
    have B6 := Lib.hid (B5.out.trans (hB.mono B5.out.size))
    obtain ⟨p3, c3, rfl⟩ := ws_len hW
    clear hW hB
    go_wp2_with fail
    go_ret2
    exact ⟨_, rfl, HW.out, B6.out⟩
  · have HZ0 := Lib.hid h0
    have hb : (checkE what width [a, b] != 0) = true := by simp; omega
    obtain ⟨ce, hce⟩ : ∃ ce, ce = checkE what width [a, b] := ⟨_, rfl⟩
    have HCe := Lib.hid hce
    rw [← hce] at hb ⊢
    clear HCE h0 hce
    go_wp2_with fail
    go_ret2
    exact ⟨.slice none 0 0, by rw [HCe.out]; rfl, ⟨by simp, .inl ⟨rfl, rfl⟩⟩, B5.out⟩

theorem lbelow_val {what width : Int} {a b : List Nat} (va : valueE what width a = true) (vb : valueE what width b = true) (h : ∀ i, i < a.length → wordE what (wAt a i) (wAt b i) = wAt b i) : belowE what a b = true := by
  rw [belowE_iff what (by rw [value_len va, value_len vb])]
  intro i
  by_cases hi : i < a.length
  · exact h i hi
  · have e1 : wAt a i = 0 := by unfold wAt; rw [List.getElem?_eq_none (by omega)]; rfl
    have e2 : wAt b i = 0 := by unfold wAt; rw [List.getElem?_eq_none (by have := value_len va; have := value_len vb; omega)]; rfl
    rw [e1, e2]; exact wordE_zero what
theorem lbelow_not {what width : Int} {a b : List Nat} (va : valueE what width a = true) (vb : valueE what width b = true) (i : Nat) (h : wordE what (wAt a i) (wAt b i) ≠ wAt b i) : belowE what a b = false := by
  rw [Bool.eq_false_iff]
  intro h2
  rw [belowE_iff what (by rw [value_len va, value_len vb])] at h2
  exact h (h2 i)

set_option maxHeartbeats 6400000 in
set_option maxRecDepth 100000 in
theorem lbelow_any (what width : Int) (v1 v2 : Value) (a b : List Nat) (w : World) (h1 : Ws w v1 a) (h2 : Ws w v2 b) (hn : a.length ≤ 100000) (hm : b.length ≤ 100000) :
    Calls Try.prog 12 #[.int .i64 what, .int .i64 width, v1, v2] w fun e w' => e = .returned (.bool (decide (checkE what width [a, b] = 0) && belowE what a b)) ∧ Below w.heap.size w w' := by
  have H1 := Lib.hid h1
  have H2 := Lib.hid h2
  have hS := Sets.two 24 h1 h2
  obtain ⟨p1, c1, rfl, q1⟩ := ws_row h1
  obtain ⟨p2, c2, rfl, q2⟩ := ws_row h2
  have C1 := Lib.hid q1
  have C2 := Lib.hid q2
  have HS := Lib.hid hS
  have B0 := Lib.hid ((Below.refl w.heap.size w).alloc (Nat.le_refl _) (.cells #[.slice p1 a.length c1, .slice p2 b.length c2] 24))
  clear h1 h2 hS q1 q2
  go_enter Try.func12, Try.ntmps12
  go_wp2_with fail
  refine (check_any what width _ [a, b] _ HS.out (by simp; omega) (by simp)).mono ?_
  rintro e w1 ⟨rfl, hB⟩
  have B1 := Lib.hid (B0.out.trans (hB.mono B0.out.size))
  clear hB HS B0
  by_cases h0 : checkE what width [a, b] = 0
  · have HZ0 := Lib.hid h0
    obtain ⟨hL, hv⟩ := check_zero h0
    have va := hv a (by simp)
    have vb := hv b (by simp)
    have hab : a.length = b.length := by rw [value_len va, value_len vb]
    have HT := Lib.hid (fun h => lbelow_val va vb h)
    have HF := Lib.hid (fun i h => lbelow_not va vb i h)
    have HAB := Lib.hid hab
    rw [h0]
    clear hv hL h0 va vb hab
    go_wp2_with fail
    go_loopw [19] (fun i wr => ∃ k : Nat, k ≤ a.length ∧ i = .int .i64 k ∧ Hid (∀ i, i < k → wordE what (wAt a i) (wAt b i) = wAt b i) ∧ Below w.heap.size w wr)
      (fun i _ => a.length - (intOf i).toNat)
    case atStart => exact ⟨0, Nat.zero_le _, rfl, Lib.hid (fun i h => by omega), B1.out⟩
    case round =>
      obtain ⟨k, hk, rfl, HA, hB⟩ := hrel
      have HB := Lib.hid hB
      clear hB
      by_cases hlt : k < a.length
      · obtain ⟨a1, rfl, r1⟩ := C1.out (by omega)
        have hltb : k < b.length := by have := HAB.out; omega
        obtain ⟨a2, rfl, r2⟩ := C2.out (by omega)
        have e1 : wr.cell? (a1.add k) = some (.int .u64 (wAt a k : Nat)) := keepc (r1 k hlt) HB.out
        have e2 : wr.cell? (a2.add k) = some (.int .u64 (wAt b k : Nat)) := keepc (r2 k hltb) HB.out
        have HE := Lib.hid (And.intro e1 e2)
        have hii : (k : Int) < a.length := by omega
        have hij : (k : Int) < b.length := by omega
        have HFk := Lib.hid (HF.out k)
        have HSn := Lib.hid (show wordE what (wAt a k) (wAt b k) = wAt b k → ∀ i, i < k + 1 → wordE what (wAt a i) (wAt b i) = wAt b i from fun e i hi => by
          rcases (show i < k ∨ i = k by omega) with h | rfl
          · exact HA.out i h
          · exact e)
        have hx := wAt_lt H1.out.1 k
        have hy := wAt_lt H2.out.1 k
        clear r1 r2 e1 e2
        generalize wAt a k = x at *
        generalize wAt b k = y at *
        go_upto_if 36 with (fail)
        go_cut [36] from 22 to 36 (fun v wx => v = .bool (((wordE what x y : Nat) : Int) != ((y : Nat) : Int)) ∧ Below w.heap.size w wx)
        case first =>
          go_region_held3 (fun w' => w'.cell? (a1.add k) = some (.int .u64 (x : Nat)) ∧ w'.cell? (a2.add k) = some (.int .u64 (y : Nat)) ∧ Below w.heap.size w w')
            (first
              | exact ⟨HE.out.1, HE.out.2, HB.out.drew⟩
              | (go_split_ands; exact ⟨keepc (by assumption) hB, keepc (by assumption) hB, bel_then (by assumption) hB⟩))
            (first
              | (go_at_call 33; refine (lword_any what x y _ hx hy).mono ?_; rintro e w' ⟨rfl, hB⟩))
          all_goals
            go_split_ands
            go_wp2_with fail
            go_meet
            case rel => exact ⟨rfl, by assumption⟩
        case rest =>
          obtain ⟨rfl, hB2⟩ := hcut
          have HB2 := Lib.hid hB2
          clear hB2
          by_cases hxy : wordE what x y = y
          · have HS2 := Lib.hid (HSn.out hxy)
            have hbb : (((wordE what x y : Nat) : Int) != ((y : Nat) : Int)) = false := by rw [hxy]; simp
            rw [hbb]
            clear hxy hbb
            go_wp2_with fail
            go_roundw
            case rel => exact ⟨k + 1, by omega, by go_num, HS2, HB2.out⟩
            case measure => simp [intOf]; omega
          · have HV := Lib.hid (HFk.out hxy)
            have hbb : (((wordE what x y : Nat) : Int) != ((y : Nat) : Int)) = true := by simp; omega
            rw [hbb]
            clear hxy hbb
            go_wp2_with fail
            go_ret
            exact ⟨ret_bool (by rw [HV.out, Bool.and_false]), HB2.out⟩
      · obtain rfl : k = a.length := by omega
        have HV := Lib.hid (HT.out HA.out)
        go_wp2_with fail
        go_ret
        exact ⟨ret_bool (by rw [HZ0.out, HV.out]; rfl), HB.out⟩
  · have hb : (checkE what width [a, b] != 0) = true := by simp; omega
    have HZ0 := Lib.hid h0
    obtain ⟨ce, hce⟩ : ∃ ce, ce = checkE what width [a, b] := ⟨_, rfl⟩
    rw [← hce] at hb ⊢
    clear h0 hce
    go_wp2_with fail
    go_ret
    exact ⟨ret_bool (by rw [decide_eq_false HZ0.out]; rfl), B1.out⟩

end Go.Proofs.Ytfeipfemknnhhaa

namespace Go.Proofs.Ytfeipfemknnhhaa
open Go.RowKit

/-- The ranks of the first k words. -/
def crK (a : List Nat) (k : Nat) : Nat := ((List.range k).map fun i => crankN (wAt a i)).sum
theorem crK_succ (a : List Nat) (k : Nat) : crK a (k + 1) = crK a k + crankN (wAt a k) := by
  unfold crK; rw [List.range_succ, List.map_append, List.sum_append]; simp
theorem crK_all (a : List Nat) : crK a a.length = (a.map crankN).sum := (sum_at crankN a).symm
theorem crankN_le (z : Nat) : crankN z ≤ 2 := by have := crank_bd (z : Int); unfold crankN; omega
theorem crankN_int (z : Nat) : crank (z : Int) = (crankN z : Int) := by have := crank_bd (z : Int); unfold crankN; omega
theorem crK_le (a : List Nat) (k : Nat) : crK a k ≤ 2 * k := by
  induction k with
  | zero => exact Nat.le_refl _
  | succ k ih => rw [crK_succ]; have := crankN_le (wAt a k); omega

/-- What Rank tells. -/
def rankR (what width : Int) (a : List Nat) : Int := if checkE what width [a] = 0 then rankE what width a else 0

/-! ### The document's -/
theorem ofK_bit (width : Int) (l : List Int) (k : Nat) (hk : k ≤ l.length) : ∀ i j, i < sizeE width → j < 64 → (wAt (ofK width l k) i).testBit j = decide (((64 * i + j : Nat) : Int) ∈ l.take k ∧ ((64 * i + j : Nat) : Int) < near width) := by
  have hs := sizeE_int width
  induction k with
  | zero =>
    intro i j hi hj
    have : wAt (ofK width l 0) i = 0 := by
      show wAt (List.replicate (sizeE width) 0) i = 0
      rw [wAt_rep, ite_self]
    rw [this]
    simp
  | succ k ih =>
    intro i j hi hj
    have h := ih (by omega) i j hi hj
    rw [ofK_succ width l k (by omega), List.take_add_one, List.getElem?_eq_getElem (by omega : k < l.length)]
    generalize l[k] = n
    rw [show (some n).getD 0 = n from rfl]
    unfold ofStep
    by_cases hn : 0 ≤ n ∧ n < near width
    · rw [if_pos hn, withE_at _ _ _ (by rw [ofK_len]; omega)]
      by_cases hq : ((64 * i + j : Nat) : Int) = n
      · have h1 : i = n.toNat / 64 := by omega
        rw [if_pos h1, Nat.testBit_or, show n.toNat % 64 = j by omega, Nat.testBit_two_pow_self, Bool.or_true]
        symm
        rw [decide_eq_true_eq]
        exact ⟨by simp [hq], by omega⟩
      · have e : (decide (((64 * i + j : Nat) : Int) ∈ l.take k ++ (some n).toList ∧ ((64 * i + j : Nat) : Int) < near width)) = decide (((64 * i + j : Nat) : Int) ∈ l.take k ∧ ((64 * i + j : Nat) : Int) < near width) := by
          rw [decide_eq_decide]
          simp only [Option.toList_some, List.mem_append, List.mem_singleton, hq, or_false]
        rw [e]
        split
        · rw [Nat.testBit_or, h, Nat.testBit_two_pow_of_ne (by omega), Bool.or_false]
        · exact h
    · rw [if_neg hn, h, decide_eq_decide]
      simp only [Option.toList_some, List.mem_append, List.mem_singleton]
      constructor
      · exact fun h => ⟨.inl h.1, h.2⟩
      · rintro ⟨h1 | h1, h2⟩
        · exact ⟨h1, h2⟩
        · exact absurd ⟨by omega, by omega⟩ hn
theorem of_range (width : Int) : ofE width ((List.range width.toNat).map Int.ofNat) = fullE width := by
  have e : ofE width ((List.range width.toNat).map Int.ofNat) = ofK width ((List.range width.toNat).map Int.ofNat) ((List.range width.toNat).map Int.ofNat).length := by unfold ofK ofE; rw [List.take_length]
  rw [e]
  refine ext_words (by rw [ofK_len, fullE_len]) (ofK_lt _ _ _) (fullE_lt _) fun i hi j hj => ?_
  rw [ofK_len] at hi
  rw [ofK_bit width _ _ (Nat.le_refl _) i j hi hj, fullE_bit width i j hi hj, decide_eq_decide, List.take_length]
  have hn := near_bd width
  constructor
  · exact fun h => h.2
  · intro h
    refine ⟨List.mem_map.2 ⟨64 * i + j, List.mem_range.2 ?_, rfl⟩, h⟩
    unfold near at h
    omega

set_option maxHeartbeats 3200000 in
set_option maxRecDepth 100000 in
theorem rlfull_any (width : Int) (w : World) (h0 : 0 ≤ width ∧ width ≤ 1024) :
    Calls Try.prog 100 #[.int .i64 width] w fun e w' => ∃ v, e = .returned v ∧ Ws w' v (fullE width) ∧ Below w.heap.size w w' := by
  obtain ⟨i0, hi, hz0, hz1, hz2⟩ := info_parts int_info
  obtain ⟨n, rfl⟩ : ∃ n : Nat, width = n := ⟨width.toNat, by omega⟩
  have hn : n ≤ 1024 := by omega
  go_enter Try.func100, Try.ntmps100
  go_wp2_with fail
  go_loopw [3, 4] (fun l i wr => ∃ k : Nat, k ≤ n ∧ i = .int .i64 k ∧ wr.ownsRow w.heap.size 3 1 l k (natVs (List.range k)) ∧ Below w.heap.size w wr)
    (fun _ i _ => n - (intOf i).toNat)
  case atStart => exact ⟨0, Nat.zero_le _, rfl, World.ownsRow_nil _ _ _ _, Below.refl _ _⟩
  case round =>
    obtain ⟨k, hk, rfl, hl, hB⟩ := hrel
    have HL := Lib.hid hl
    have HB := Lib.hid hB
    clear hl hB
    by_cases hlt : k < n
    · go_wp2_with (at_builtin; refine wpList_append_own _ rfl _ _ 23 rfl w.heap.size 3 i0 (.int .i64 0) 1 8 Try.underlying23 hi hz0 hz1 hz2 rfl (by decide) _ _ _ rfl (HL.out.alloc _) ⟨wr.heap.size, 0, none⟩ 1 1 [.int .i64 k] rfl rfl ?c1 ?c2 ?c3 ?c4 ?c5 ?_)
      case c1 => exact cell_one_new _ _ _
      case c2 => simp [Value.oneCell']
      case c3 => unfold maxLen; omega
      case c4 => omega
      case c5 => have := HB.out.size; simp; omega
      intro v' w3 hown' hgrow _
      have HL' := Lib.hid (show w3.ownsRow w.heap.size 3 1 v' (k + 1) (natVs (List.range (k + 1))) by rw [List.range_succ, natVs_snoc]; exact hown')
      have HB' := Lib.hid ((HB.out.alloc (by have := HB.out.size; omega) _).grown hgrow (by have := HB.out.size; simp; omega) (fun k hk => (HL.out.lt k hk).1))
      clear hown' hgrow
      go_wp2_with fail
      go_roundw
      case rel => exact ⟨k + 1, by omega, by go_num, HL'.out, HB'.out⟩
      case measure => simp [intOf]; omega
    · obtain rfl : k = n := by omega
      have HI := Lib.hid (show IntsAt wr _ ((List.range k).map Int.ofNat) from .of_owns (by have h7 := HL.out; rw [natVs_ints] at h7; exact h7))
      have HF := Lib.hid (show ofE (k : Nat) ((List.range k).map Int.ofNat) = fullE (k : Nat) from of_range (k : Nat))
      go_wp2_with fail
      refine (rsetof_any _ _ _ _ HI.out (by simp; omega)).mono ?_
      rintro e w4 ⟨u, rfl, hW, hB⟩
      rw [HF.out] at hW
      have HW := Lib.hid hW
      have HB4 := Lib.hid (HB.out.trans (hB.mono HB.out.size))
      obtain ⟨p3, c3, rfl⟩ := ws_len hW
      clear hW hB
      go_wp2_with fail
      go_ret
      exact ⟨_, rfl, HW.out, HB4.out⟩

end Go.Proofs.Ytfeipfemknnhhaa

namespace Go.Proofs.Ytfeipfemknnhhaa
open Go.RowKit

theorem isL_width {what width : Int} (h : isL what width = true) : 0 ≤ width ∧ width ≤ 1024 := by
  simp only [isL, decide_eq_true_eq] at h; omega

set_option maxHeartbeats 3200000 in
set_option maxRecDepth 100000 in
theorem rbottom_any (what width : Int) (w : World) :
    Calls Try.prog 70 #[.int .i64 what, .int .i64 width] w fun e w' => ∃ v, e = .returned v ∧ Ws w' v (bottomE what width) ∧ Below w.heap.size w w' := by
  have hn := wordsN_le what width
  have hmk := make_u64 (wordsN what width) (wordsN what width) rfl (by omega)
  have rest : ∀ h : bottomE what width = List.replicate (wordsN what width) 0, Ws (w.alloc (.cells (Array.replicate (wordsN what width) (Value.int .u64 0)) 41)) (.slice (some ⟨w.heap.size, 0, none⟩) (wordsN what width) (wordsN what width)) (bottomE what width) := fun h => by
    rw [h]; exact (zeros_bk' w _).ws List.length_replicate (zeros_lt _)
  have HR := Lib.hid rest
  have HB0 := Lib.hid ((Below.refl w.heap.size w).alloc (Nat.le_refl _) (.cells (Array.replicate (wordsN what width) (Value.int .u64 0)) 41))
  clear rest
  go_enter Try.func70, Try.ntmps70
  go_wp2_with fail
  refine (rlis_any _ _ _).mono ?_
  rintro e w1 ⟨rfl, hww⟩
  subst w1
  cases hL : isL what width with
  | false =>
    have H := Lib.hid (show bottomE what width = List.replicate (wordsN what width) 0 by unfold bottomE; rw [hL, if_neg (by simp)])
    clear hL
    go_wp2_with fail
    refine (rlwords_any _ _ _).mono ?_
    rintro e w1 ⟨rfl, hww⟩
    subst w1
    go_wp2_with fail
    go_ret
    exact ⟨_, rfl, HR.out H.out, HB0.out⟩
  | true =>
    by_cases h2 : what = 2
    · subst h2
      have H := Lib.hid (show bottomE 2 width = fullE width by unfold bottomE; rw [if_pos ⟨rfl, hL⟩])
      have hwd := isL_width hL
      clear hL
      go_wp2_with fail
      refine (rlfull_any _ _ hwd).mono ?_
      rintro e w3 ⟨u, rfl, hW, hB⟩
      have HW := Lib.hid hW
      have HB := Lib.hid hB
      obtain ⟨p3, c3, rfl⟩ := ws_len hW
      clear hW hB
      go_wp2_with fail
      go_ret
      exact ⟨_, rfl, by rw [H.out]; exact HW.out, HB.out⟩
    · have H := Lib.hid (show bottomE what width = List.replicate (wordsN what width) 0 by unfold bottomE; rw [if_neg (by omega)])
      have e2 : (what == 2) = false := by simpa using h2
      clear hL h2
      go_wp2_with fail
      refine (rlwords_any _ _ _).mono ?_
      rintro e w1 ⟨rfl, hww⟩
      subst w1
      go_wp2_with fail
      go_ret
      exact ⟨_, rfl, HR.out H.out, HB0.out⟩

/-- What the document's Top has written when k places are over. -/
def tpK (what : Int) (n k : Nat) : List Nat := madeK (fun _ => if what = 3 then 1 else 0) n k
theorem tpK_same {what : Int} (h : what ≠ 3) (n k : Nat) : tpK what n k = List.replicate n 0 := by
  unfold tpK madeK
  rw [if_neg h]
  refine List.ext_getElem (by simp) fun i h1 h2 => by simp


set_option maxHeartbeats 3200000 in
set_option maxRecDepth 100000 in
theorem rval_any (what width : Int) (v : Value) (a : List Nat) (w : World) (hw : Ws w v a) (hx : a.length ≤ 100000) :
    Calls Try.prog 36 #[.int .i64 what, .int .i64 width, v] w fun e w' => e = .returned (.bool (valueE what width a)) ∧ Below w.heap.size w w' := by
  have hn := wordsN_le what width
  have HZ := Lib.hid hw.1
  have HW := Lib.hid hw
  obtain ⟨p, c, rfl, hc⟩ := ws_row hw
  have HC := Lib.hid hc
  have B0 := Lib.hid (Below.refl w.heap.size w)
  clear hw hc
  go_enter Try.func36, Try.ntmps36
  go_wp2_with fail
  refine (rlis_any _ _ _).mono ?_
  rintro e w1 ⟨rfl, hww⟩
  subst w1
  cases hL : isL what width with
  | false =>
    have H := Lib.hid (show valueE what width a = false by unfold valueE; rw [hL]; rfl)
    clear hL
    go_wp2_with fail
    go_ret
    exact ⟨ret_bool H.out.symm, B0.out⟩
  | true =>
    have HL := Lib.hid hL
    clear hL
    go_wp2_with fail
    refine (rlwords_any _ _ _).mono ?_
    rintro e w1 ⟨rfl, hww⟩
    subst w1
    by_cases hl : a.length = wordsN what width
    · have hb : ((a.length : Int) != ((wordsN what width : Nat) : Int)) = false := by simp; omega
      have Hl := Lib.hid hl
      clear hl
      by_cases h3 : what = 3
      · subst h3
        have H1 := Lib.hid (show (∀ i, i < a.length → souN (wAt a i) = true) → valueE 3 width a = true from fun h => by
          unfold valueE; rw [HL.out, decide_eq_true Hl.out, if_pos rfl, all_at h]; rfl)
        have H0 := Lib.hid (show ∀ i, i < a.length → souN (wAt a i) = false → valueE 3 width a = false from fun i hi h => by
          unfold valueE; rw [if_pos rfl, all_not hi h]; simp)
        go_wp2_with fail
        go_loopw [28] (fun i wr => ∃ k : Nat, k ≤ a.length ∧ i = .int .i64 k ∧ Hid (∀ i, i < k → souN (wAt a i) = true) ∧ Below w.heap.size w wr)
          (fun i _ => a.length - (intOf i).toNat)
        case atStart => exact ⟨0, Nat.zero_le _, rfl, Lib.hid (fun i h => by omega), B0.out⟩
        case round =>
          obtain ⟨k, hk, rfl, HA, hB⟩ := hrel
          have HB := Lib.hid hB
          clear hB
          by_cases hlt : k < a.length
          · obtain ⟨ad, rfl, q⟩ := HC.out (by omega)
            have hck := keepc (q k hlt) HB.out
            rw [show a[k]?.getD 0 = wAt a k from rfl] at hck
            have H0k := Lib.hid (H0.out k hlt)
            have HS := Lib.hid (show souN (wAt a k) = true → ∀ i, i < k + 1 → souN (wAt a i) = true from fun e i hi => by
              rcases (show i < k ∨ i = k by omega) with h | rfl
              · exact HA.out i h
              · exact e)
            have hz := wAt_lt HZ.out k
            clear q
            generalize wAt a k = z at *
            go_wp2_with fail
            refine (norm_any z _ (by omega)).mono ?_
            rintro e w2 ⟨rfl, hB2⟩
            have HB2 := Lib.hid (HB.out.trans (hB2.mono HB.out.size))
            clear hB2
            by_cases hs : sou (z : Int) = (z : Int)
            · have HS2 := Lib.hid (HS.out (by unfold souN; rw [beq_iff_eq]; exact hs))
              have hbb : (sou (z : Int) != (z : Int)) = false := by rw [hs]; simp
              clear hs
              generalize sou (z : Int) = sz at *
              go_wp2_with fail
              go_roundw
              case rel => exact ⟨k + 1, by omega, by go_num, HS2, HB2.out⟩
              case measure => simp [intOf]; omega
            · have HV := Lib.hid (H0k.out (by unfold souN; rw [beq_eq_false_iff_ne]; exact hs))
              have hbb : (sou (z : Int) != (z : Int)) = true := by simpa using hs
              clear hs
              generalize sou (z : Int) = sz at *
              go_wp2_with fail
              go_ret
              exact ⟨ret_bool HV.out.symm, HB2.out⟩
          · obtain rfl : k = a.length := by omega
            have HV := Lib.hid (H1.out HA.out)
            go_wp2_with fail
            go_ret
            exact ⟨ret_bool HV.out.symm, HB.out⟩
      · have hne : (what != 3) = true := by simp; omega
        have HV := Lib.hid (show valueE what width a = fitsE a width by
          unfold valueE; rw [HL.out, decide_eq_true Hl.out, if_neg h3]; rfl)
        have hl16 : a.length ≤ 1000 := by
          have h1 := Hl.out
          have h2 : wordsN what width = sizeE width := by unfold wordsN; rw [if_pos HL.out, if_neg h3]
          have := sizeE_le width
          omega
        clear h3
        go_wp2_with fail
        refine (rfits_any _ _ _ _ HW.out hl16).mono ?_
        rintro e w2 ⟨rfl, hB2⟩
        have HB2 := Lib.hid hB2
        clear hB2
        rw [← HV.out]
        go_wp2_with fail
        go_ret
        exact ⟨rfl, HB2.out⟩
    · have hb : ((a.length : Int) != ((wordsN what width : Nat) : Int)) = true := by simp; omega
      have HV := Lib.hid (show valueE what width a = false by unfold valueE; rw [decide_eq_false hl]; simp)
      clear hl
      go_wp2_with fail
      go_ret
      exact ⟨ret_bool HV.out.symm, B0.out⟩

end Go.Proofs.Ytfeipfemknnhhaa

namespace Go.Proofs.Ytfeipfemknnhhaa
open Go.RowKit

/-- The first k words put together. -/
def jK (what : Int) (a b : List Nat) (k : Nat) : List Nat := (List.range k).map fun i => wordE what (wAt a i) (wAt b i)
theorem jK_succ (what : Int) (a b : List Nat) (k : Nat) : jK what a b (k + 1) = jK what a b k ++ [wordE what (wAt a k) (wAt b k)] := by
  unfold jK; rw [List.range_succ, List.map_append]; rfl
theorem u64s_snoc (l : List Nat) (z : Nat) : u64s (l ++ [z]) = u64s l ++ [.int .u64 (z : Nat)] := by simp [u64s]
theorem Ws.of_owns {w : World} {base : Nat} {v : Value} {n : Nat} {a : List Nat} (h : w.ownsRow base 41 1 v n (u64s a)) (hz : ∀ z ∈ a, z < 18446744073709551616) : Ws w v a := by
  obtain ⟨hl, ⟨rfl, h0⟩ | ⟨g, cap, cur, rfl, hg, hb, hnc, hmx, hsz, hct⟩⟩ := h
  · have : a = [] := List.eq_nil_of_length_eq_zero (by simp [u64s] at hl; omega)
    subst this
    exact ⟨by simp, .inl ⟨rfl, rfl⟩⟩
  · have e : a.length = n := by simpa [u64s] using hl
    exact Ws.of_bk (show Bk w g 41 cur.toList from hb) e (by simpa using hct) hz
theorem join_words (what : Int) {a b : List Nat} (h : a.length = b.length) : jK what a b a.length = joinE what a b := by
  unfold jK joinE bothE
  rw [show max a.length b.length = a.length by omega]




end Go.Proofs.Ytfeipfemknnhhaa

namespace Go.Proofs.Ytfeipfemknnhhaa
open Go.RowKit

theorem wfu64 {n : Int} (h : (Lit.int .u64 n).wf = true) : 0 ≤ n ∧ n ≤ 18446744073709551615 := by
  simp only [Lit.wf, Bool.and_eq_true, decide_eq_true_eq] at h
  exact ⟨h.1, h.2⟩
theorem words_of {H : Type} {enc : TypeId × Value → H} {w : World} {base : Nat} {spare : Nat → Bool} {held : Bool} {fuel : Nat} {o : Option Addr} {n c : Nat} {x : DataW H × List MemPlace}
    (h : DataW.trod enc Try.prog w base spare held fuel 24 [.slice o n c] = some x) : ∃ L, Ws w (.slice o n c) L ∧ L.length ≤ maxLen := by
  rcases Go.Deep.open_slice1 Try.underlying24 (by kernel_rfl) h with h | ⟨a, len, cap, m, k, V, D, Pl, hcs, hb, hl, hm, hmm, hx, hi⟩
  · have h := h.1
    simp only [List.cons.injEq, Value.slice.injEq, and_true] at h
    obtain ⟨rfl, rfl, rfl⟩ := h
    exact ⟨[], ⟨by simp, .inl ⟨rfl, rfl⟩⟩, by simp⟩
  · simp only [List.cons.injEq, Value.slice.injEq, and_true] at hcs
    obtain ⟨rfl, rfl, rfl⟩ := hcs
    have hx : ∀ i, ∃ z : Nat, z < 18446744073709551616 ∧ (i < n → w.cell? (a.add i) = some (.int .u64 (z : Nat))) := fun i => by
      by_cases hlt : i < n
      · have hn : n ≤ m := by rw [hmm]; split <;> omega
        obtain ⟨hc, ht⟩ := hi i (by omega)
        obtain ⟨z, hz, _, wf⟩ := DataW.trod_int Try.underlying41 ht
        simp only [List.cons.injEq, and_true] at hz
        have := wfu64 wf
        refine ⟨z.toNat, by omega, fun _ => ?_⟩
        rw [hc, hz, show ((z.toNat : Nat) : Int) = z by omega]
      · exact ⟨0, by decide, fun h => absurd h hlt⟩
    refine ⟨(List.range n).map fun i => (hx i).choose, ⟨fun z hz => ?_, .inr ⟨a, c, by simp, fun i h => ?_⟩⟩, by simp; omega⟩
    · obtain ⟨i, _, rfl⟩ := List.mem_map.1 hz
      exact (hx i).choose_spec.1
    · have hi' : i < n := by simpa using h
      rw [(hx i).choose_spec.2 hi', List.getElem?_map, List.getElem?_range hi']
      rfl

end Go.Proofs.Ytfeipfemknnhhaa
