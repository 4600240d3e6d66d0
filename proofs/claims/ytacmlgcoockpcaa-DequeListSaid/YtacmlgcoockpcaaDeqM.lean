/-
  deque: ops one behind the other, as a list: the plain mathematics.
-/
import Derived.Test.YtacmlgcoockpcaaDeqEnd
import Derived.Test.YtacmlgcoockpcaaPush
import Derived.Test.YtacmlgcoockpcaaDeqList
namespace Go.Proofs.Ytacmlgcoockpcaa
open Go.RowKit

/-- A machine's Steps. -/
def it (f : DS → List Int → DS) (g : DS → List Int → List Int) : Nat → DS × List Int → DS × List Int
  | 0, s => s
  | n + 1, s => it f g n (f s.1 s.2, g s.1 s.2)
theorem it_last (f : DS → List Int → DS) (g : DS → List Int → List Int) (n : Nat) (s : DS × List Int) : it f g (n + 1) s = (f (it f g n s).1 (it f g n s).2, g (it f g n s).1 (it f g n s).2) := by
  induction n generalizing s with
  | zero => rfl
  | succ n ih => exact ih (f s.1 s.2, g s.1 s.2)
theorem it_fix (f : DS → List Int → DS) (g : DS → List Int → List Int) (s : DS) (zs : List Int) (hf : f s zs = s) (hg : g s zs = zs) (n : Nat) : it f g n (s, zs) = (s, zs) := by
  induction n with
  | zero => rfl
  | succ n ih => unfold it; rw [hf, hg]; exact ih

theorem ldv_same (zs : List Int) (a : Nat) (u : Int) (h : a < zs.length) : ldv (stv zs a u) a = u := by
  unfold ldv stv wd
  rw [if_pos (by omega), if_pos (by omega)]
  simp [h]
theorem ldv_ne (zs : List Int) (a c : Nat) (u : Int) (h : a ≠ c) : ldv (stv zs c u) a = ldv zs a := by
  unfold ldv stv wd
  rw [if_pos (by omega), if_pos (by omega), if_pos (by omega)]
  simp only [Int.toNat_natCast]
  rw [List.getElem?_set_ne (by omega)]

/-- The words of a deque at 0 with room for R: it holds l, from index T to index B. -/
structure Inv (zs : List Int) (R T B : Nat) (l : List Int) : Prop where
  len : zs.length = 2 + R
  r1 : 1 ≤ R
  r2 : R ≤ 4096
  top : ldv zs (0 : Nat) = T
  bot : ldv zs (1 : Nat) = B
  num : B = T + l.length
  few : l.length ≤ R
  low : 1 ≤ T
  bd : B ≤ 1000000
  has : ∀ i, i < l.length → ldv zs ((2 + (T + i) % R : Nat)) = l[i]?.getD 0

theorem w64 (n : Int) (h : -9223372036854775808 ≤ n ∧ n ≤ 9223372036854775807) : wrap64 n = n := by unfold wrap64; omega
theorem u64w (n : Int) (h : 0 ≤ n ∧ n ≤ 18446744073709551615) : IntKind.u64.wrap n = n := by rw [IntKind.wrap_u64]; omega
theorem placev_nat (room : Int) (R i : Nat) (hR : (R : Int) = roomv room) (h1 : 1 ≤ R) (h2 : R ≤ 4096) : placev 0 room i = ((2 + i % R : Nat) : Int) := by
  have hm := Nat.mod_lt i (show 0 < R by omega)
  unfold placev
  have q : wrap64 ((i % R : Nat) : Int) = ((i % R : Nat) : Int) := w64 _ (by omega)
  rw [← hR, u64w (R : Int) (by omega), w64 (0 + 2) (by omega), Int.tmod_eq_emod_of_nonneg (by omega), ← Int.natCast_emod, q, w64 (0 + 2 + ((i % R : Nat) : Int)) (by omega)]
  omega
theorem abv_nat (a b : Nat) (ha : a ≤ 2000000) (hb : b ≤ 2000000) : abv a b = decide (b < a) := by
  unfold abv
  rw [w64 _ (by omega), w64 _ (by omega)]
  by_cases h : b < a <;> simp [h]

/-- Places of indexes that are less than the room apart are unlike. -/
theorem mod_ne (R a b : Nat) (h : a < b) (hb : b < a + R) : a % R ≠ b % R := by
  intro e
  have h1 := Nat.div_add_mod a R
  have h2 := Nat.div_add_mod b R
  rw [← e] at h2
  have h3 : R * (a / R) < R * (b / R) := by omega
  have h4 : a / R < b / R := Nat.lt_of_mul_lt_mul_left h3
  have h5 : R * (a / R) + R ≤ R * (b / R) := by
    have := Nat.mul_le_mul_left R (show a / R + 1 ≤ b / R from h4)
    rw [Nat.mul_add, Nat.mul_one] at this
    exact this
  omega

def push0 (room n : Int) : DS := ⟨0, room, n, false, false, 0, 0, 0, 0, false⟩
/-- A push that finds room. -/
theorem push_run (zs : List Int) (room n : Int) (R T B : Nat) (l : List Int) (hR : (R : Int) = roomv room) (h : Inv zs R T B l) (hf : l.length < R) (hbd : B < 1000000) :
    (it pushS pushZ 7 (push0 room n, zs)).1.ok = true ∧ (it pushS pushZ 7 (push0 room n, zs)).1.ended = true ∧ Inv (it pushS pushZ 7 (push0 room n, zs)).2 R T (B + 1) (l ++ [n]) := by
  have e1 : wrap64 ((0 : Int) + 1) = ((1 : Nat) : Int) := by rw [w64 _ (by omega)]; rfl
  have e1' : wrap64 1 = 1 := w64 _ (by omega)
  have hn := h.num
  have hb := h.bd
  have hl := h.low
  have z0 : ldv zs 0 = T := h.top
  have z1 : ldv zs 1 = B := h.bot
  have s1 : pushS (push0 room n) zs = ⟨0, room, n, false, false, 1, B, 0, 0, false⟩ := by unfold pushS push0; simp [e1', z1]
  have g1 : pushZ (push0 room n) zs = zs := by unfold pushZ push0; simp
  have hx : ¬ roomv room ≤ wrap64 (IntKind.u64.wrap ((B : Int) - (T : Int))) := by
    rw [← hR, u64w _ (by omega), w64 _ (by omega)]
    omega
  have s2 : pushS ⟨0, room, n, false, false, 1, B, 0, 0, false⟩ zs = ⟨0, room, n, false, false, 2, B, T, 0, false⟩ := by unfold pushS; simp [z0, hx]
  have g2 : pushZ ⟨0, room, n, false, false, 1, B, 0, 0, false⟩ zs = zs := by unfold pushZ; simp
  have s3 : pushS ⟨0, room, n, false, false, 2, B, T, 0, false⟩ zs = ⟨0, room, n, false, false, 3, B, T, 0, false⟩ := by unfold pushS; simp
  have g3 : pushZ ⟨0, room, n, false, false, 2, B, T, 0, false⟩ zs = stv zs ((2 + B % R : Nat) : Int) n := by unfold pushZ; simp only [placev_nat room R B hR h.r1 h.r2]; simp
  generalize hz3 : stv zs ((2 + B % R : Nat) : Int) n = zs3 at g3
  have s4 : pushS ⟨0, room, n, false, false, 3, B, T, 0, false⟩ zs3 = ⟨0, room, n, true, true, 3, B, T, 0, false⟩ := by unfold pushS; simp
  have g4 : pushZ ⟨0, room, n, false, false, 3, B, T, 0, false⟩ zs3 = stv zs3 ((1 : Nat) : Int) ((B + 1 : Nat) : Int) := by
    unfold pushZ
    simp only [e1]
    rw [u64w _ (by omega)]
    simp
  generalize hz4 : stv zs3 ((1 : Nat) : Int) ((B + 1 : Nat) : Int) = zs4 at g4
  have fx : it pushS pushZ 3 (⟨0, room, n, true, true, 3, B, T, 0, false⟩, zs4) = (⟨0, room, n, true, true, 3, B, T, 0, false⟩, zs4) := it_fix _ _ _ _ (by unfold pushS; simp) (by unfold pushZ; simp) 3
  have run : it pushS pushZ 7 (push0 room n, zs) = (⟨0, room, n, true, true, 3, B, T, 0, false⟩, zs4) := by
    show it pushS pushZ 6 (pushS (push0 room n) zs, pushZ (push0 room n) zs) = _
    rw [s1, g1]
    show it pushS pushZ 5 (pushS _ zs, pushZ _ zs) = _
    rw [s2, g2]
    show it pushS pushZ 4 (pushS _ zs, pushZ _ zs) = _
    rw [s3, g3]
    show it pushS pushZ 3 (pushS _ zs3, pushZ _ zs3) = _
    rw [s4, g4]
    exact fx
  rw [run]
  have hm := Nat.mod_lt B (show 0 < R by have := h.r1; omega)
  have hl3 : zs3.length = 2 + R := by rw [← hz3, stv_len]; exact h.len
  refine ⟨rfl, rfl, ⟨by rw [← hz4, stv_len]; exact hl3, h.r1, h.r2, ?_, ?_, by simp; omega, by simp; omega, h.low, by omega, fun i hi => ?_⟩⟩
  · rw [← hz4, ldv_ne _ _ _ _ (by omega), ← hz3, ldv_ne _ _ _ _ (by omega)]; exact h.top
  · rw [← hz4]; exact ldv_same _ _ _ (by omega)
  · rw [← hz4, ldv_ne _ _ _ _ (by omega), ← hz3]
    have hi' : i < l.length + 1 := by simpa using hi
    rcases (show i < l.length ∨ i = l.length by omega) with hi2 | hi2
    · rw [ldv_ne _ _ _ _ (by have := mod_ne R (T + i) B (by omega) (by omega); omega), List.getElem?_append_left hi2]
      exact h.has i hi2
    · subst hi2
      rw [← hn, ldv_same _ _ _ (by rw [h.len]; omega), List.getElem?_append_right (Nat.le_refl _)]
      simp
/-- A push that finds none. -/
theorem push_full (zs : List Int) (room n : Int) (R T B : Nat) (l : List Int) (hR : (R : Int) = roomv room) (h : Inv zs R T B l) (hf : ¬ l.length < R) :
    (it pushS pushZ 7 (push0 room n, zs)).1.ok = false ∧ (it pushS pushZ 7 (push0 room n, zs)).1.ended = true ∧ (it pushS pushZ 7 (push0 room n, zs)).2 = zs := by
  have e1 : wrap64 ((0 : Int) + 1) = ((1 : Nat) : Int) := by rw [w64 _ (by omega)]; rfl
  have e1' : wrap64 1 = 1 := w64 _ (by omega)
  have hn := h.num
  have hb := h.bd
  have z0 : ldv zs 0 = T := h.top
  have z1 : ldv zs 1 = B := h.bot
  have s1 : pushS (push0 room n) zs = ⟨0, room, n, false, false, 1, B, 0, 0, false⟩ := by unfold pushS push0; simp [e1', z1]
  have g1 : pushZ (push0 room n) zs = zs := by unfold pushZ push0; simp
  have hx : roomv room ≤ wrap64 (IntKind.u64.wrap ((B : Int) - (T : Int))) := by
    rw [← hR, u64w _ (by omega), w64 _ (by omega)]
    omega
  have s2 : pushS ⟨0, room, n, false, false, 1, B, 0, 0, false⟩ zs = ⟨0, room, n, false, true, 1, B, T, 0, false⟩ := by unfold pushS; simp [z0, hx]
  have g2 : pushZ ⟨0, room, n, false, false, 1, B, 0, 0, false⟩ zs = zs := by unfold pushZ; simp
  have run : it pushS pushZ 7 (push0 room n, zs) = (⟨0, room, n, false, true, 1, B, T, 0, false⟩, zs) := by
    show it pushS pushZ 6 (pushS (push0 room n) zs, pushZ (push0 room n) zs) = _
    rw [s1, g1]
    show it pushS pushZ 5 (pushS _ zs, pushZ _ zs) = _
    rw [s2, g2]
    exact it_fix _ _ _ _ (by unfold pushS; simp) (by unfold pushZ; simp) 5
  rw [run]
  exact ⟨rfl, rfl, rfl⟩

theorem hasv_nat (n a : Nat) (h : a < n) : hasv n a = true := by
  unfold hasv
  simp [h]
theorem casb_top (zs : List Int) (T : Int) (h0 : 0 < zs.length) (h : ldv zs 0 = T) : casb zs 0 T = true := by
  unfold casb
  rw [show hasv zs.length 0 = true from hasv_nat zs.length 0 h0, h]
  simp
theorem casv_top (zs : List Int) (T u : Int) (h0 : 0 < zs.length) (h : ldv zs 0 = T) : casv zs 0 T u = stv zs 0 u := by
  unfold casv
  rw [if_pos (casb_top zs T h0 h)]

/-- A steal from a deque that holds something. -/
theorem steal_run (zs : List Int) (room : Int) (R T B : Nat) (x : Int) (l : List Int) (hR : (R : Int) = roomv room) (h : Inv zs R T B (x :: l)) :
    (it stealS stealZ 7 (push0 room 0, zs)).1.ok = true ∧ (it stealS stealZ 7 (push0 room 0, zs)).1.n = x ∧ Inv (it stealS stealZ 7 (push0 room 0, zs)).2 R (T + 1) B l := by
  have e1' : wrap64 1 = 1 := w64 _ (by omega)
  have hn := h.num
  have hb := h.bd
  have hlen := h.len
  simp only [List.length_cons] at hn
  have z0 : ldv zs 0 = T := h.top
  have z1 : ldv zs 1 = B := h.bot
  have zx : ldv zs ((2 + T % R : Nat) : Int) = x := by have := h.has 0 (by simp); simpa using this
  have ab : abv (B : Int) (T : Int) = true := by rw [abv_nat _ _ (by omega) (by omega)]; simp; omega
  have s1 : stealS (push0 room 0) zs = ⟨0, room, 0, false, false, 1, 0, T, 0, false⟩ := by unfold stealS push0; simp [z0]
  have g1 : stealZ (push0 room 0) zs = zs := by unfold stealZ push0; simp
  have s2 : stealS ⟨0, room, 0, false, false, 1, 0, T, 0, false⟩ zs = ⟨0, room, 0, false, false, 2, B, T, 0, false⟩ := by unfold stealS; simp [e1', z1, ab]
  have g2 : stealZ ⟨0, room, 0, false, false, 1, 0, T, 0, false⟩ zs = zs := by unfold stealZ; simp
  have s3 : stealS ⟨0, room, 0, false, false, 2, B, T, 0, false⟩ zs = ⟨0, room, 0, false, false, 3, B, T, x, false⟩ := by unfold stealS; simp only [placev_nat room R T hR h.r1 h.r2, zx]; simp
  have g3 : stealZ ⟨0, room, 0, false, false, 2, B, T, 0, false⟩ zs = zs := by unfold stealZ; simp
  have s4 : stealS ⟨0, room, 0, false, false, 3, B, T, x, false⟩ zs = ⟨0, room, x, true, true, 3, B, T, x, false⟩ := by unfold stealS; simp only [casb_top zs T (by omega) z0]; simp [endS]
  have g4 : stealZ ⟨0, room, 0, false, false, 3, B, T, x, false⟩ zs = stv zs ((0 : Nat) : Int) ((T + 1 : Nat) : Int) := by
    unfold stealZ
    simp only [casv_top zs T _ (by omega) z0]
    rw [u64w _ (by omega)]
    simp
  generalize hz4 : stv zs ((0 : Nat) : Int) ((T + 1 : Nat) : Int) = zs4 at g4
  have run : it stealS stealZ 7 (push0 room 0, zs) = (⟨0, room, x, true, true, 3, B, T, x, false⟩, zs4) := by
    show it stealS stealZ 6 (stealS (push0 room 0) zs, stealZ (push0 room 0) zs) = _
    rw [s1, g1]
    show it stealS stealZ 5 (stealS _ zs, stealZ _ zs) = _
    rw [s2, g2]
    show it stealS stealZ 4 (stealS _ zs, stealZ _ zs) = _
    rw [s3, g3]
    show it stealS stealZ 3 (stealS _ zs, stealZ _ zs) = _
    rw [s4, g4]
    exact it_fix _ _ _ _ (by unfold stealS; simp) (by unfold stealZ; simp) 3
  rw [run]
  have hfew := h.few
  simp only [List.length_cons] at hfew
  refine ⟨rfl, rfl, ⟨by rw [← hz4, stv_len]; exact h.len, h.r1, h.r2, ?_, ?_, by omega, by omega, by omega, h.bd, fun i hi => ?_⟩⟩
  · rw [← hz4]; exact ldv_same _ _ _ (by omega)
  · rw [← hz4, ldv_ne _ _ _ _ (by omega)]; exact h.bot
  · rw [← hz4, ldv_ne _ _ _ _ (by omega)]
    have := h.has (i + 1) (by simp; omega)
    rw [show T + 1 + i = T + (i + 1) by omega]
    simpa using this
/-- A steal from a deque that holds nothing. -/
theorem steal_none_run (zs : List Int) (room : Int) (R T B : Nat) (h : Inv zs R T B []) :
    (it stealS stealZ 7 (push0 room 0, zs)).1.ok = false ∧ (it stealS stealZ 7 (push0 room 0, zs)).1.n = 0 ∧ (it stealS stealZ 7 (push0 room 0, zs)).2 = zs := by
  have e1' : wrap64 1 = 1 := w64 _ (by omega)
  have hn := h.num
  have hb := h.bd
  simp only [List.length_nil] at hn
  have z0 : ldv zs 0 = T := h.top
  have z1 : ldv zs 1 = B := h.bot
  have ab : abv (B : Int) (T : Int) = false := by rw [abv_nat _ _ (by omega) (by omega)]; simp; omega
  have s1 : stealS (push0 room 0) zs = ⟨0, room, 0, false, false, 1, 0, T, 0, false⟩ := by unfold stealS push0; simp [z0]
  have g1 : stealZ (push0 room 0) zs = zs := by unfold stealZ push0; simp
  have s2 : stealS ⟨0, room, 0, false, false, 1, 0, T, 0, false⟩ zs = ⟨0, room, 0, false, true, 1, B, T, 0, false⟩ := by unfold stealS; simp [e1', z1, ab, endS]
  have g2 : stealZ ⟨0, room, 0, false, false, 1, 0, T, 0, false⟩ zs = zs := by unfold stealZ; simp
  have run : it stealS stealZ 7 (push0 room 0, zs) = (⟨0, room, 0, false, true, 1, B, T, 0, false⟩, zs) := by
    show it stealS stealZ 6 (stealS (push0 room 0) zs, stealZ (push0 room 0) zs) = _
    rw [s1, g1]
    show it stealS stealZ 5 (stealS _ zs, stealZ _ zs) = _
    rw [s2, g2]
    exact it_fix _ _ _ _ (by unfold stealS; simp) (by unfold stealZ; simp) 5
  rw [run]
  exact ⟨rfl, rfl, rfl⟩

/-- The first Steps of a pop. -/
theorem pop_first (zs : List Int) (room : Int) (R T C : Nat) (l : List Int) (h : Inv zs R T (C + 1) l) :
    it popS popZ 7 (push0 room 0, zs) = it popS popZ 4 (⟨0, room, 0, false, false, 3, C, T, 0, false⟩, stv zs ((1 : Nat) : Int) C) := by
  have e1' : wrap64 1 = 1 := w64 _ (by omega)
  have hb := h.bd
  have z0 : ldv zs 0 = T := h.top
  have z1 : ldv zs 1 = ((C + 1 : Nat) : Int) := h.bot
  have s1 : popS (push0 room 0) zs = ⟨0, room, 0, false, false, 1, C, 0, 0, false⟩ := by
    unfold popS push0
    have q : IntKind.u64.wrap (((C + 1 : Nat) : Int) - 1) = C := by rw [u64w _ (by omega)]; omega
    simp only [Bool.false_eq_true, if_false, if_true, Int.zero_add, e1', z1, q]
  have g1 : popZ (push0 room 0) zs = zs := by unfold popZ push0; simp
  have s2 : popS ⟨0, room, 0, false, false, 1, C, 0, 0, false⟩ zs = ⟨0, room, 0, false, false, 2, C, 0, 0, false⟩ := by unfold popS; simp
  have g2 : popZ ⟨0, room, 0, false, false, 1, C, 0, 0, false⟩ zs = stv zs ((1 : Nat) : Int) C := by unfold popZ; simp [e1']
  have z2 : ldv (stv zs ((1 : Nat) : Int) C) 0 = T := by
    have := ldv_ne zs 0 1 C (by omega)
    rw [show ((0 : Nat) : Int) = 0 from rfl] at this
    rw [this]; exact z0
  generalize stv zs ((1 : Nat) : Int) C = zs2 at *
  have s3 : popS ⟨0, room, 0, false, false, 2, C, 0, 0, false⟩ zs2 = ⟨0, room, 0, false, false, 3, C, T, 0, false⟩ := by unfold popS; simp [z2]
  have g3 : popZ ⟨0, room, 0, false, false, 2, C, 0, 0, false⟩ zs2 = zs2 := by unfold popZ; simp
  show it popS popZ 6 (popS (push0 room 0) zs, popZ (push0 room 0) zs) = _
  rw [s1, g1]
  show it popS popZ 5 (popS _ zs, popZ _ zs) = _
  rw [s2, g2]
  show it popS popZ 4 (popS _ zs2, popZ _ zs2) = _
  rw [s3, g3]
/-- What a deque holds, index by index. -/
theorem tk_nat (T k : Nat) (h : T + k ≤ 3000000) : tk (T : Int) k = ((T + k : Nat) : Int) := by
  induction k with
  | zero => rfl
  | succ k ih =>
    unfold tk
    rw [ih (by omega), u64w _ (by omega)]
    omega
theorem list_is (zs : List Int) (room : Int) (R T B : Nat) (l : List Int) (hR : (R : Int) = roomv room) (h : Inv zs R T B l) : lk zs 0 room (ldv zs 0) l.length = l := by
  have z0 : ldv zs 0 = T := h.top
  rw [z0]
  have hn := h.num
  have hb := h.bd
  have aux : ∀ k, k ≤ l.length → lk zs 0 room T k = l.take k := by
    intro k
    induction k with
    | zero => intro _; rfl
    | succ k ih =>
      intro hk
      unfold lk
      rw [ih (by omega), tk_nat T k (by omega), placev_nat room R (T + k) hR h.r1 h.r2, h.has k (by omega), List.take_succ_eq_append_getElem (by omega), List.getElem?_eq_getElem (by omega)]
      rfl
  rw [aux _ (Nat.le_refl _), List.take_length]
theorem list_len (zs : List Int) (room : Int) (R T B K : Nat) (l : List Int) (hR : (R : Int) = roomv room) (h : Inv zs R T B l) (hK : (K : Int) ≤ roomv room)
    (hj : ∀ j, j < K → abv (ldv zs (wrap64 (0 + 1))) (tk (ldv zs 0) j) = true) (he : (K : Int) = roomv room ∨ abv (ldv zs (wrap64 (0 + 1))) (tk (ldv zs 0) K) = false) : K = l.length := by
  have hn := h.num
  have hb := h.bd
  have hr := h.r2
  have hf := h.few
  have z0 : ldv zs 0 = T := h.top
  have z1 : ldv zs (wrap64 (0 + 1)) = B := by rw [w64 _ (by omega)]; exact h.bot
  simp only [z0, z1] at hj he
  have ab : ∀ j, j ≤ 4096 → abv (B : Int) (tk (T : Int) j) = decide (j < l.length) := fun j hj => by
    rw [tk_nat T j (by omega), abv_nat _ _ (by omega) (by omega)]
    by_cases h : j < l.length <;> simp [h] <;> omega
  rcases Nat.lt_trichotomy K l.length with hlt | rfl | hgt
  · rcases he with he | he
    · omega
    · rw [ab K (by omega)] at he
      simp at he
      omega
  · rfl
  · have := hj l.length hgt
    rw [ab _ (by omega)] at this
    simp at this

end Go.Proofs.Ytacmlgcoockpcaa
