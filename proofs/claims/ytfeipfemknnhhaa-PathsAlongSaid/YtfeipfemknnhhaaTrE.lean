/-
  slices.Equal of words and of codes; transfer.Same, soughref16.Same: contracts.
-/
import Derived.Test.YtfeipfemknnhhaaPk2
import Derived.BigQuiet
import Derived.Deep.QuietTactic
namespace Go.Proofs.Ytfeipfemknnhhaa
open Go.RowKit

set_option maxHeartbeats 1600000 in
set_option maxRecDepth 100000 in
theorem sequal_any (v1 v2 : Value) (xs ys : List Nat) (w : World) (h1 : Ws w v1 xs) (h2 : Ws w v2 ys) (hx : xs.length ≤ 9223372036854775807) (hy : ys.length ≤ 9223372036854775807) :
    Calls Try.prog 63 #[v1, v2] w fun e w' => e = .returned (.bool (decide (xs = ys))) ∧ ∃ n, w' = w.drewN n := by
  obtain ⟨o1, c1, rfl, hc1⟩ := ws_row h1
  obtain ⟨o2, c2, rfl, hc2⟩ := ws_row h2
  clear h1 h2
  by_cases hl : xs.length = ys.length
  · have Hl := Lib.hid hl
    have hl1 : xs.length ≤ ys.length := by omega
    have hl2 : ys.length ≤ xs.length := by omega
    have hb : ((xs.length : Int) != (ys.length : Int)) = false := by simp [hl]
    clear hl
    have H1 := Lib.hid hc1
    have H2 := Lib.hid hc2
    clear hc1 hc2
    go_enter Try.func63, Try.ntmps63
    go_wp2
    go_loopw [13] (fun i wr => ∃ k nq : Nat, k ≤ xs.length ∧ i = .int .i64 k ∧ (∀ j, j < k → xs[j]?.getD 0 = ys[j]?.getD 0) ∧ wr = w.drewN nq)
      (fun i _ => xs.length - (intOf i).toNat)
    case atStart => exact ⟨0, 0, Nat.zero_le _, rfl, by simp, rfl⟩
    case round =>
      obtain ⟨k, nq, hk, rfl, hall, rfl⟩ := hrel
      have Hall := Lib.hid hall
      clear hall
      by_cases hlt : k < xs.length
      · obtain ⟨a, rfl, hc1⟩ := H1.out (by omega)
        obtain ⟨b, rfl, hc2⟩ := H2.out (by omega)
        replace hc1 := hc1 k hlt
        replace hc2 := hc2 k (by omega)
        have Hs := Lib.hid (fun (h : ¬ ((xs[k]?.getD 0 : Nat) : Int) = ((ys[k]?.getD 0 : Nat) : Int)) => same_ne h)
        have Ht := Lib.hid (show xs[k]?.getD 0 = ys[k]?.getD 0 → ∀ j, j < k + 1 → xs[j]?.getD 0 = ys[j]?.getD 0 from fun e j hj => by
          rcases (show j < k ∨ j = k from by omega) with h | rfl
          · exact Hall.out j h
          · exact e)
        generalize xs[k]?.getD 0 = x at *
        generalize ys[k]?.getD 0 = y at *
        go_wp2
        go_quiet (fail)
        go_wp2
        · go_ret
          exact ⟨ret_bool (Hs.out (by have : ((x : Int) != (y : Int)) = true := by assumption
                                      simpa using this)).symm, _, World.drewN_drewN ..⟩
        · refine ⟨⟨k + 1, _, by omega, by go_num, Ht.out (by have : ((x : Int) != (y : Int)) = false := by assumption
                                                             simp at this; omega), rfl⟩, by simp [intOf]; omega⟩
      · obtain rfl : k = xs.length := by omega
        go_wp2
        go_ret
        exact ⟨ret_bool (same_eq Hl.out Hall.out).symm, nq, rfl⟩
  · have hb : ((xs.length : Int) != (ys.length : Int)) = true := by simp; omega
    clear hc1 hc2
    go_enter Try.func63, Try.ntmps63
    go_wp2
    go_ret
    exact ⟨ret_bool (decide_eq_false (by rintro rfl; exact hl rfl)).symm, 0, rfl⟩

theorem eq3_no {a b c d e f : Int} (h : a = b → c = d → ¬ e = f) : (a == b && (c == d && e == f)) = false := by
  rw [Bool.eq_false_iff]
  intro h2
  simp only [Bool.and_eq_true, beq_iff_eq] at h2
  exact h h2.1 h2.2.1 h2.2.2
theorem eq3_yes {a b c d e f : Int} (h : ¬ (a = b → c = d → ¬ e = f)) : (a == b && (c == d && e == f)) = true := by
  simp only [Bool.and_eq_true, beq_iff_eq]
  refine Classical.byContradiction fun h2 => h fun h3 h4 h5 => h2 ⟨h3, h4, h5⟩
theorem refF (f : Nat) (x a b y c d : Int) (w : World) : (Op.equalIn (f + 3) 108 (.agg #[.int .i64 x, .int .i64 a, .int .i64 b]) (.agg #[.int .i64 y, .int .i64 c, .int .i64 d])).run Try.prog w = .ok (x == y && (a == c && b == d)) w := by
  have u3 := Try.underlying3
  have a3 := Try.isAgg3
  have z3 := Try.sizeOf3
  have a8 := Try.isAgg106
  have z8 := Try.sizeOf106
  have hn := fun w => numF f a b c d w
  rw [run_equalIn_agg w (f + 2) _ _ _ refU refS]
  simp only [Program.fieldsOf, Try.underlying108]
  go_simp
  by_cases h0 : x = y <;> by_cases h1 : a = c <;> by_cases h2 : b = d <;> simp [h0, h1, h2]
theorem codeU : Try.prog.underlying 110 = some (.struct (Try.prog.fieldsOf 110)) := by kernel_rfl
theorem codeS : Try.prog.stoodInHeld 110 = false := by kernel_rfl
/-- Whether codes are alike. -/
def codeQ (c d : CodeT) : Bool := c.v == d.v && (c.o == d.o && ((c.av == d.av && (c.ar == d.ar && c.ai == d.ai)) && (c.bv == d.bv && (c.br == d.br && c.bi == d.bi))))
theorem codeQ_iff (c d : CodeT) : codeQ c d = true ↔ c = d := by
  obtain ⟨v, o, av, ar, ai, bv, br, bi⟩ := c
  obtain ⟨v', o', av', ar', ai', bv', br', bi'⟩ := d
  unfold codeQ
  simp only [Bool.and_eq_true, beq_iff_eq, CodeT.mk.injEq]
  constructor
  · rintro ⟨h1, h2, ⟨h3, h4, h5⟩, h6, h7, h8⟩; exact ⟨h1, h2, h3, h4, h5, h6, h7, h8⟩
  · rintro ⟨h1, h2, h3, h4, h5, h6, h7, h8⟩; exact ⟨h1, h2, ⟨h3, h4, h5⟩, h6, h7, h8⟩
theorem code_equal (c d : CodeT) (w : World) : (Op.equalIn 10000 110 (.agg (ccells c).toArray) (.agg (ccells d).toArray)).run Try.prog w = .ok (codeQ c d) w := by
  obtain ⟨v, o, av, ar, ai, bv, br, bi⟩ := c
  obtain ⟨v', o', av', ar', ai', bv', br', bi'⟩ := d
  have u3 := Try.underlying3
  have a3 := Try.isAgg3
  have z3 := Try.sizeOf3
  have a8 := Try.isAgg108
  have z8 := Try.sizeOf108
  have h1 := fun w => refF 9996 av ar ai av' ar' ai' w
  have h2 := fun w => refF 9996 bv br bi bv' br' bi' w
  unfold ccells codeQ
  rw [show (10000 : Nat) = 9999 + 1 from rfl, run_equalIn_agg w 9999 _ _ _ codeU codeS]
  simp only [Program.fieldsOf, Try.underlying110]
  go_simp
  by_cases g1 : v = v'
  · by_cases g2 : o = o'
    · by_cases g3 : av = av' → ar = ar' → ¬ai = ai'
      · rw [if_pos g1, if_pos g2, if_pos g3, eq3_no g3]; simp
      · by_cases g4 : bv = bv' → br = br' → ¬bi = bi'
        · rw [if_pos g1, if_pos g2, if_neg g3, if_pos g4, eq3_no g4]; simp
        · rw [if_pos g1, if_pos g2, if_neg g3, if_neg g4, eq3_yes g3, eq3_yes g4, g1, g2]; simp
    · rw [if_pos g1, if_neg g2]; simp [g2]
  · rw [if_neg g1]; simp [g1]
theorem code_neq (c d : CodeT) (w : World) : (binOp .neq 110 (.agg (ccells c).toArray) (.agg (ccells d).toArray)).run Try.prog w = .ok (.bool (!codeQ c d)) w := by
  rw [run_neq_struct, code_equal]; rfl
theorem lists_eq {L M : List CodeT} (hl : L.length = M.length) (h : ∀ j, j < L.length → cdAt L j = cdAt M j) : L = M := by
  refine List.ext_getElem hl fun j h1 h2 => ?_
  have := h j h1
  unfold cdAt at this
  rw [List.getElem?_eq_getElem h1, List.getElem?_eq_getElem h2] at this
  exact this
/-- Whether lists of codes are alike. -/
def codesQ (L M : List CodeT) : Bool := decide (L.length = M.length) && (List.range L.length).all fun j => codeQ (cdAt L j) (cdAt M j)
theorem codesQ_iff (L M : List CodeT) : codesQ L M = true ↔ L = M := by
  unfold codesQ
  rw [Bool.and_eq_true, decide_eq_true_eq, List.all_eq_true]
  constructor
  · rintro ⟨h1, h2⟩
    exact lists_eq h1 fun j hj => (codeQ_iff _ _).1 (h2 j (List.mem_range.2 hj))
  · rintro rfl
    exact ⟨rfl, fun j _ => (codeQ_iff _ _).2 rfl⟩


end Go.Proofs.Ytfeipfemknnhhaa
