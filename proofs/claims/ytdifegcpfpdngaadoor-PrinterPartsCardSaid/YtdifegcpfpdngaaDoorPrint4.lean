/-
  soughref05.Expr, Stmt, Term from any world.
-/
import Derived.Test.YtdifegcpfpdngaaDoorPrint3
import Derived.Test.YtdifegcpfpdngaaDoorFr
namespace Go.Proofs.YtdifegcpfpdngaaDoor
open Go.RowKit

/-- How many atoms an expression has. -/
def atomsN (op : Int) : Nat := if op = 0 then 1 else if op = 4 then 1 else if op = 1 then 2 else if op = 2 then 2 else if op = 3 then 2 else 0
set_option maxHeartbeats 3200000 in
set_option maxRecDepth 100000 in
theorem atoms_any (op : Int) (v u : List UInt8) (a b c d : Int) (w : World) :
    Calls Tryd.prog 53 #[.agg #[.int .i64 op, .string ⟨v.toArray⟩, .int .i64 a, .int .i64 b, .string ⟨u.toArray⟩, .int .i64 c, .int .i64 d]] w fun e w' => ∃ o0 c0, e = .returned (.slice o0 (atomsN op) c0) ∧ Below w.heap.size w w' := by
  have HB := Lib.hid ((Below.refl w.heap.size w).alloc (Nat.le_refl _) (.cells #[.int .i64 op, .string ⟨v.toArray⟩, .int .i64 a, .int .i64 b, .string ⟨u.toArray⟩, .int .i64 c, .int .i64 d] 36))
  by_cases h0 : op = 0
  · subst h0
    go_enter Tryd.func53, Tryd.ntmps53
    go_wp2_with fail
    go_ret
    exact ⟨_, _, rfl, (HB.out.alloc (by simp) _)⟩
  by_cases h4 : op = 4
  · subst h4
    go_enter Tryd.func53, Tryd.ntmps53
    go_wp2_with fail
    go_ret
    exact ⟨_, _, rfl, (HB.out.alloc (by simp) _)⟩
  by_cases h1 : op = 1
  · subst h1
    go_enter Tryd.func53, Tryd.ntmps53
    go_wp2_with fail
    go_ret
    exact ⟨_, _, rfl, (HB.out.alloc (by simp) _)⟩
  by_cases h2 : op = 2
  · subst h2
    go_enter Tryd.func53, Tryd.ntmps53
    go_wp2_with fail
    go_ret
    exact ⟨_, _, rfl, (HB.out.alloc (by simp) _)⟩
  by_cases h3 : op = 3
  · subst h3
    go_enter Tryd.func53, Tryd.ntmps53
    go_wp2_with fail
    go_ret
    exact ⟨_, _, rfl, (HB.out.alloc (by simp) _)⟩
  have e0 : (op == 0) = false := by simpa using h0
  have e1 : (op == 1) = false := by simpa using h1
  have e2 : (op == 2) = false := by simpa using h2
  have e3 : (op == 3) = false := by simpa using h3
  have e4 : (op == 4) = false := by simpa using h4
  have Hn := Lib.hid (show atomsN op = 0 by unfold atomsN; rw [if_neg h0, if_neg h4, if_neg h1, if_neg h2, if_neg h3])
  go_enter Tryd.func53, Tryd.ntmps53
  go_wp2_with fail
  go_ret
  rw [Hn.out]
  exact ⟨_, _, rfl, HB.out⟩

set_option maxHeartbeats 3200000 in
set_option maxRecDepth 100000 in
theorem rexpr_any (op : Int) (v u : List UInt8) (a b c d : Int) (w : World) (hl : v.length + u.length ≤ 1000000) :
    Calls Tryd.prog 20 #[.agg #[.int .i64 op, .string ⟨v.toArray⟩, .int .i64 a, .int .i64 b, .string ⟨u.toArray⟩, .int .i64 c, .int .i64 d]] w fun e w' => e = .returned (.string ⟨(exprT op v u a b c d).toArray⟩) ∧ Below w.heap.size w w' := by
  have l1 := atomT_len v a b
  have l2 := atomT_len u c d
  have L1 := Lib.hid (And.intro l1 l2)
  have HL := Lib.hid hl
  clear l1 l2 hl
  by_cases h1 : op = 1
  · subst h1
    have Hn := Lib.hid (show exprT 1 v u a b c d = cat (cat (atomT v a b) [32, 43, 32]) (atomT u c d) from rfl)
    have s1 := cat_run (P := Tryd.prog) (atomT v a b) [32, 43, 32] (by have := L1.out; have := HL.out; simp; omega)
    have s2 := cat_run (P := Tryd.prog) (cat (atomT v a b) [32, 43, 32]) (atomT u c d) (by have := L1.out; have := HL.out; first | (simp; done) | (simp; omega) | (simp [cat_len]; omega))
    have BE := Lib.hid (Bk.new w 36 [.int .i64 1, .string ⟨v.toArray⟩, .int .i64 a, .int .i64 b, .string ⟨u.toArray⟩, .int .i64 c, .int .i64 d])
    have HB := Lib.hid ((Below.refl w.heap.size w).alloc (Nat.le_refl _) (.cells #[.int .i64 1, .string ⟨v.toArray⟩, .int .i64 a, .int .i64 b, .string ⟨u.toArray⟩, .int .i64 c, .int .i64 d] 36))
    go_enter Tryd.func20, Tryd.ntmps20
    go_wp2_with fail
    refine (atoms_any 1 v u a b c d _).mono ?_
    rintro e w0 ⟨o0, c0, rfl, hB⟩
    have hat : atomsN 1 = 2 := rfl
    rw [hat]
    replace BE := Lib.hid (BE.out.fr (Fr.of (S := []) hB) (by simp))
    replace HB := Lib.hid (HB.out.trans (hB.mono HB.out.size))
    have p0 := BE.out.cell 0
    have p1 := BE.out.cell 1
    have p2 := BE.out.cell 2
    have p3 := BE.out.cell 3
    have p4 := BE.out.cell 4
    have p5 := BE.out.cell 5
    have p6 := BE.out.cell 6
    clear hB hat
    go_wp2_with fail
    go_region_held3 (fun w' => w'.cell? ⟨w.heap.size, 0, none⟩ = some (.int .i64 1) ∧ w'.cell? ⟨w.heap.size, 1, none⟩ = some (.string ⟨v.toArray⟩) ∧ w'.cell? ⟨w.heap.size, 2, none⟩ = some (.int .i64 a) ∧ w'.cell? ⟨w.heap.size, 3, none⟩ = some (.int .i64 b) ∧ w'.cell? ⟨w.heap.size, 4, none⟩ = some (.string ⟨u.toArray⟩) ∧ w'.cell? ⟨w.heap.size, 5, none⟩ = some (.int .i64 c) ∧ w'.cell? ⟨w.heap.size, 6, none⟩ = some (.int .i64 d) ∧ Below w.heap.size w w')
      (first
        | exact ⟨BE.out.cell 0, BE.out.cell 1, BE.out.cell 2, BE.out.cell 3, BE.out.cell 4, BE.out.cell 5, BE.out.cell 6, HB.out.drew⟩
        | (go_split_ands; exact ⟨keepc (by assumption) hB, keepc (by assumption) hB, keepc (by assumption) hB, keepc (by assumption) hB, keepc (by assumption) hB, keepc (by assumption) hB, keepc (by assumption) hB, bel_then (by assumption) hB⟩))
      (first
        | (go_at_call 18; go_split_ands; refine (ratom_any _ _ _ _).mono ?_; rintro e w' ⟨rfl, hB⟩))
    all_goals
      go_split_ands
      go_wp2_with fail
      go_ret
      exact ⟨ret_str Hn.out.symm, by assumption⟩
  by_cases h2 : op = 2
  · subst h2
    have Hn := Lib.hid (show exprT 2 v u a b c d = cat (cat (atomT v a b) [32, 45, 32]) (atomT u c d) from rfl)
    have s1 := cat_run (P := Tryd.prog) (atomT v a b) [32, 45, 32] (by have := L1.out; have := HL.out; simp; omega)
    have s2 := cat_run (P := Tryd.prog) (cat (atomT v a b) [32, 45, 32]) (atomT u c d) (by have := L1.out; have := HL.out; first | (simp; done) | (simp; omega) | (simp [cat_len]; omega))
    have BE := Lib.hid (Bk.new w 36 [.int .i64 2, .string ⟨v.toArray⟩, .int .i64 a, .int .i64 b, .string ⟨u.toArray⟩, .int .i64 c, .int .i64 d])
    have HB := Lib.hid ((Below.refl w.heap.size w).alloc (Nat.le_refl _) (.cells #[.int .i64 2, .string ⟨v.toArray⟩, .int .i64 a, .int .i64 b, .string ⟨u.toArray⟩, .int .i64 c, .int .i64 d] 36))
    go_enter Tryd.func20, Tryd.ntmps20
    go_wp2_with fail
    refine (atoms_any 2 v u a b c d _).mono ?_
    rintro e w0 ⟨o0, c0, rfl, hB⟩
    have hat : atomsN 2 = 2 := rfl
    rw [hat]
    replace BE := Lib.hid (BE.out.fr (Fr.of (S := []) hB) (by simp))
    replace HB := Lib.hid (HB.out.trans (hB.mono HB.out.size))
    have p0 := BE.out.cell 0
    have p1 := BE.out.cell 1
    have p2 := BE.out.cell 2
    have p3 := BE.out.cell 3
    have p4 := BE.out.cell 4
    have p5 := BE.out.cell 5
    have p6 := BE.out.cell 6
    clear hB hat
    go_wp2_with fail
    go_region_held3 (fun w' => w'.cell? ⟨w.heap.size, 0, none⟩ = some (.int .i64 2) ∧ w'.cell? ⟨w.heap.size, 1, none⟩ = some (.string ⟨v.toArray⟩) ∧ w'.cell? ⟨w.heap.size, 2, none⟩ = some (.int .i64 a) ∧ w'.cell? ⟨w.heap.size, 3, none⟩ = some (.int .i64 b) ∧ w'.cell? ⟨w.heap.size, 4, none⟩ = some (.string ⟨u.toArray⟩) ∧ w'.cell? ⟨w.heap.size, 5, none⟩ = some (.int .i64 c) ∧ w'.cell? ⟨w.heap.size, 6, none⟩ = some (.int .i64 d) ∧ Below w.heap.size w w')
      (first
        | exact ⟨BE.out.cell 0, BE.out.cell 1, BE.out.cell 2, BE.out.cell 3, BE.out.cell 4, BE.out.cell 5, BE.out.cell 6, HB.out.drew⟩
        | (go_split_ands; exact ⟨keepc (by assumption) hB, keepc (by assumption) hB, keepc (by assumption) hB, keepc (by assumption) hB, keepc (by assumption) hB, keepc (by assumption) hB, keepc (by assumption) hB, bel_then (by assumption) hB⟩))
      (first
        | (go_at_call 18; go_split_ands; refine (ratom_any _ _ _ _).mono ?_; rintro e w' ⟨rfl, hB⟩))
    all_goals
      go_split_ands
      go_wp2_with fail
      go_ret
      exact ⟨ret_str Hn.out.symm, by assumption⟩
  by_cases h3 : op = 3
  · subst h3
    have Hn := Lib.hid (show exprT 3 v u a b c d = cat (cat (atomT v a b) [32, 42, 32]) (atomT u c d) from rfl)
    have s1 := cat_run (P := Tryd.prog) (atomT v a b) [32, 42, 32] (by have := L1.out; have := HL.out; simp; omega)
    have s2 := cat_run (P := Tryd.prog) (cat (atomT v a b) [32, 42, 32]) (atomT u c d) (by have := L1.out; have := HL.out; first | (simp; done) | (simp; omega) | (simp [cat_len]; omega))
    have BE := Lib.hid (Bk.new w 36 [.int .i64 3, .string ⟨v.toArray⟩, .int .i64 a, .int .i64 b, .string ⟨u.toArray⟩, .int .i64 c, .int .i64 d])
    have HB := Lib.hid ((Below.refl w.heap.size w).alloc (Nat.le_refl _) (.cells #[.int .i64 3, .string ⟨v.toArray⟩, .int .i64 a, .int .i64 b, .string ⟨u.toArray⟩, .int .i64 c, .int .i64 d] 36))
    go_enter Tryd.func20, Tryd.ntmps20
    go_wp2_with fail
    refine (atoms_any 3 v u a b c d _).mono ?_
    rintro e w0 ⟨o0, c0, rfl, hB⟩
    have hat : atomsN 3 = 2 := rfl
    rw [hat]
    replace BE := Lib.hid (BE.out.fr (Fr.of (S := []) hB) (by simp))
    replace HB := Lib.hid (HB.out.trans (hB.mono HB.out.size))
    have p0 := BE.out.cell 0
    have p1 := BE.out.cell 1
    have p2 := BE.out.cell 2
    have p3 := BE.out.cell 3
    have p4 := BE.out.cell 4
    have p5 := BE.out.cell 5
    have p6 := BE.out.cell 6
    clear hB hat
    go_wp2_with fail
    go_region_held3 (fun w' => w'.cell? ⟨w.heap.size, 0, none⟩ = some (.int .i64 3) ∧ w'.cell? ⟨w.heap.size, 1, none⟩ = some (.string ⟨v.toArray⟩) ∧ w'.cell? ⟨w.heap.size, 2, none⟩ = some (.int .i64 a) ∧ w'.cell? ⟨w.heap.size, 3, none⟩ = some (.int .i64 b) ∧ w'.cell? ⟨w.heap.size, 4, none⟩ = some (.string ⟨u.toArray⟩) ∧ w'.cell? ⟨w.heap.size, 5, none⟩ = some (.int .i64 c) ∧ w'.cell? ⟨w.heap.size, 6, none⟩ = some (.int .i64 d) ∧ Below w.heap.size w w')
      (first
        | exact ⟨BE.out.cell 0, BE.out.cell 1, BE.out.cell 2, BE.out.cell 3, BE.out.cell 4, BE.out.cell 5, BE.out.cell 6, HB.out.drew⟩
        | (go_split_ands; exact ⟨keepc (by assumption) hB, keepc (by assumption) hB, keepc (by assumption) hB, keepc (by assumption) hB, keepc (by assumption) hB, keepc (by assumption) hB, keepc (by assumption) hB, bel_then (by assumption) hB⟩))
      (first
        | (go_at_call 18; go_split_ands; refine (ratom_any _ _ _ _).mono ?_; rintro e w' ⟨rfl, hB⟩))
    all_goals
      go_split_ands
      go_wp2_with fail
      go_ret
      exact ⟨ret_str Hn.out.symm, by assumption⟩
  by_cases h0 : op = 0
  · subst h0
    have Hn := Lib.hid (show exprT 0 v u a b c d = atomT v a b from rfl)
    have BE := Lib.hid (Bk.new w 36 [.int .i64 0, .string ⟨v.toArray⟩, .int .i64 a, .int .i64 b, .string ⟨u.toArray⟩, .int .i64 c, .int .i64 d])
    have HB := Lib.hid ((Below.refl w.heap.size w).alloc (Nat.le_refl _) (.cells #[.int .i64 0, .string ⟨v.toArray⟩, .int .i64 a, .int .i64 b, .string ⟨u.toArray⟩, .int .i64 c, .int .i64 d] 36))
    go_enter Tryd.func20, Tryd.ntmps20
    go_wp2_with fail
    refine (atoms_any 0 v u a b c d _).mono ?_
    rintro e w0 ⟨o0, c0, rfl, hB⟩
    have hat : atomsN 0 = 1 := rfl
    rw [hat]
    replace BE := Lib.hid (BE.out.fr (Fr.of (S := []) hB) (by simp))
    replace HB := Lib.hid (HB.out.trans (hB.mono HB.out.size))
    have p0 := BE.out.cell 0
    have p1 := BE.out.cell 1
    have p2 := BE.out.cell 2
    have p3 := BE.out.cell 3
    have p4 := BE.out.cell 4
    have p5 := BE.out.cell 5
    have p6 := BE.out.cell 6
    clear hB hat
    go_wp2_with fail
    refine (ratom_any _ _ _ _).mono ?_
    rintro e w1 ⟨rfl, hB⟩
    have HB1 := Lib.hid hB
    clear hB
    go_wp2_with fail
    go_ret
    exact ⟨ret_str Hn.out.symm, HB.out.trans (HB1.out.mono HB.out.size)⟩
  by_cases h4 : op = 4
  · subst h4
    have Hn := Lib.hid (show exprT 4 v u a b c d = cat [99, 111, 110, 106, 32] (atomT v a b) from rfl)
    have s1 := cat_run (P := Tryd.prog) [99, 111, 110, 106, 32] (atomT v a b) (by have := L1.out; have := HL.out; simp; omega)
    have BE := Lib.hid (Bk.new w 36 [.int .i64 4, .string ⟨v.toArray⟩, .int .i64 a, .int .i64 b, .string ⟨u.toArray⟩, .int .i64 c, .int .i64 d])
    have HB := Lib.hid ((Below.refl w.heap.size w).alloc (Nat.le_refl _) (.cells #[.int .i64 4, .string ⟨v.toArray⟩, .int .i64 a, .int .i64 b, .string ⟨u.toArray⟩, .int .i64 c, .int .i64 d] 36))
    go_enter Tryd.func20, Tryd.ntmps20
    go_wp2_with fail
    refine (atoms_any 4 v u a b c d _).mono ?_
    rintro e w0 ⟨o0, c0, rfl, hB⟩
    have hat : atomsN 4 = 1 := rfl
    rw [hat]
    replace BE := Lib.hid (BE.out.fr (Fr.of (S := []) hB) (by simp))
    replace HB := Lib.hid (HB.out.trans (hB.mono HB.out.size))
    have p0 := BE.out.cell 0
    have p1 := BE.out.cell 1
    have p2 := BE.out.cell 2
    have p3 := BE.out.cell 3
    have p4 := BE.out.cell 4
    have p5 := BE.out.cell 5
    have p6 := BE.out.cell 6
    clear hB hat
    go_wp2_with fail
    refine (ratom_any _ _ _ _).mono ?_
    rintro e w1 ⟨rfl, hB⟩
    have HB1 := Lib.hid hB
    clear hB
    go_wp2_with fail
    go_ret
    exact ⟨ret_str Hn.out.symm, HB.out.trans (HB1.out.mono HB.out.size)⟩
  have Hn := Lib.hid (show exprT op v u a b c d = [] by unfold exprT; rw [if_neg h0, if_neg h4, if_neg h1, if_neg h2, if_neg h3])
  have e0 : (op == 0) = false := by simpa using h0
  have e1 : (op == 1) = false := by simpa using h1
  have e2 : (op == 2) = false := by simpa using h2
  have e3 : (op == 3) = false := by simpa using h3
  have e4 : (op == 4) = false := by simpa using h4
  have BE := Lib.hid (Bk.new w 36 [.int .i64 op, .string ⟨v.toArray⟩, .int .i64 a, .int .i64 b, .string ⟨u.toArray⟩, .int .i64 c, .int .i64 d])
  have HB := Lib.hid ((Below.refl w.heap.size w).alloc (Nat.le_refl _) (.cells #[.int .i64 op, .string ⟨v.toArray⟩, .int .i64 a, .int .i64 b, .string ⟨u.toArray⟩, .int .i64 c, .int .i64 d] 36))
  go_enter Tryd.func20, Tryd.ntmps20
  go_wp2_with fail
  refine (atoms_any op v u a b c d _).mono ?_
  rintro e w0 ⟨o0, c0, rfl, hB⟩
  have hat : atomsN op = 0 := by unfold atomsN; simp [h0, h1, h2, h3, h4]
  rw [hat]
  replace BE := Lib.hid (BE.out.fr (Fr.of (S := []) hB) (by simp))
  replace HB := Lib.hid (HB.out.trans (hB.mono HB.out.size))
  have p0 := BE.out.cell 0
  have p1 := BE.out.cell 1
  have p2 := BE.out.cell 2
  have p3 := BE.out.cell 3
  have p4 := BE.out.cell 4
  have p5 := BE.out.cell 5
  have p6 := BE.out.cell 6
  clear hB hat
  go_wp2_with fail
  go_ret
  exact ⟨ret_str Hn.out.symm, HB.out⟩

set_option maxHeartbeats 3200000 in
set_option maxRecDepth 100000 in
theorem rstmt_any (k : Int) (x : List UInt8) (op : Int) (v u : List UInt8) (a b c d : Int) (w : World) (hl : x.length + v.length + u.length ≤ 1000000) :
    Calls Tryd.prog 22 #[.agg #[.int .i64 k, .string ⟨x.toArray⟩, .int .i64 op, .string ⟨v.toArray⟩, .int .i64 a, .int .i64 b, .string ⟨u.toArray⟩, .int .i64 c, .int .i64 d]] w fun e w' => e = .returned (.string ⟨(stmtT k x op v u a b c d).toArray⟩) ∧ Below w.heap.size w w' := by
  have l1 := exprT_len op v u a b c d
  have L1 := Lib.hid l1
  have HL := Lib.hid hl
  clear l1 hl
  by_cases h1 : k = 1
  · subst h1
    have Hn := Lib.hid (show stmtT 1 x op v u a b c d = (cat (cat (cat (x) [32, 61, 32]) (exprT op v u a b c d)) [59]) from rfl)
    have s1 := cat_run (P := Tryd.prog) (x) [32, 61, 32] (by have := L1.out; have := HL.out; first | (simp; done) | (simp; omega) | (simp [cat_len]; omega))
    have s2 := cat_run (P := Tryd.prog) (cat (x) [32, 61, 32]) (exprT op v u a b c d) (by have := L1.out; have := HL.out; first | (simp; done) | (simp; omega) | (simp [cat_len]; omega))
    have s3 := cat_run (P := Tryd.prog) (cat (cat (x) [32, 61, 32]) (exprT op v u a b c d)) [59] (by have := L1.out; have := HL.out; first | (simp; done) | (simp; omega) | (simp [cat_len]; omega))
    have BE := Lib.hid (Bk.new' w 38 [.int .i64 1, .string ⟨x.toArray⟩, .int .i64 op, .string ⟨v.toArray⟩, .int .i64 a, .int .i64 b, .string ⟨u.toArray⟩, .int .i64 c, .int .i64 d] (g := w.heap.size) (by simp))
    have HB := Lib.hid ((Below.refl w.heap.size w).alloc (Nat.le_refl _) (.cells #[.int .i64 1, .string ⟨x.toArray⟩, .int .i64 op, .string ⟨v.toArray⟩, .int .i64 a, .int .i64 b, .string ⟨u.toArray⟩, .int .i64 c, .int .i64 d] 38))
    go_enter Tryd.func22, Tryd.ntmps22
    go_wp2_with fail
    go_region_held3 (fun w' => w'.cell? ⟨w.heap.size, 0, none⟩ = some (.int .i64 1) ∧ w'.cell? ⟨w.heap.size, 1, none⟩ = some (.string ⟨x.toArray⟩) ∧ w'.cell? ⟨w.heap.size, 2, none⟩ = some (.int .i64 op) ∧ w'.cell? ⟨w.heap.size, 3, none⟩ = some (.string ⟨v.toArray⟩) ∧ w'.cell? ⟨w.heap.size, 4, none⟩ = some (.int .i64 a) ∧ w'.cell? ⟨w.heap.size, 5, none⟩ = some (.int .i64 b) ∧ w'.cell? ⟨w.heap.size, 6, none⟩ = some (.string ⟨u.toArray⟩) ∧ w'.cell? ⟨w.heap.size, 7, none⟩ = some (.int .i64 c) ∧ w'.cell? ⟨w.heap.size, 8, none⟩ = some (.int .i64 d) ∧ Below w.heap.size w w')
      (first
        | exact ⟨BE.out.cell 0, BE.out.cell 1, BE.out.cell 2, BE.out.cell 3, BE.out.cell 4, BE.out.cell 5, BE.out.cell 6, BE.out.cell 7, BE.out.cell 8, HB.out.drew⟩
        | (go_split_ands; exact ⟨keepc (by assumption) hB, keepc (by assumption) hB, keepc (by assumption) hB, keepc (by assumption) hB, keepc (by assumption) hB, keepc (by assumption) hB, keepc (by assumption) hB, keepc (by assumption) hB, keepc (by assumption) hB, bel_then (by assumption) hB⟩))
      (first
        | (go_at_call 20; go_split_ands; refine (rexpr_any _ _ _ _ _ _ _ _ (by have := HL.out; omega)).mono ?_; rintro e w' ⟨rfl, hB⟩))
    all_goals
      go_split_ands
      go_wp2_with fail
      go_ret
      exact ⟨ret_str Hn.out.symm, by assumption⟩
  by_cases h2 : k = 2
  · subst h2
    have Hn := Lib.hid (show stmtT 2 x op v u a b c d = (cat (cat [105, 110, 32] x) [59]) from rfl)
    have s1 := cat_run (P := Tryd.prog) [105, 110, 32] x (by have := L1.out; have := HL.out; first | (simp; done) | (simp; omega) | (simp [cat_len]; omega))
    have s2 := cat_run (P := Tryd.prog) (cat [105, 110, 32] x) [59] (by have := L1.out; have := HL.out; first | (simp; done) | (simp; omega) | (simp [cat_len]; omega))
    have BE := Lib.hid (Bk.new' w 38 [.int .i64 2, .string ⟨x.toArray⟩, .int .i64 op, .string ⟨v.toArray⟩, .int .i64 a, .int .i64 b, .string ⟨u.toArray⟩, .int .i64 c, .int .i64 d] (g := w.heap.size) (by simp))
    have HB := Lib.hid ((Below.refl w.heap.size w).alloc (Nat.le_refl _) (.cells #[.int .i64 2, .string ⟨x.toArray⟩, .int .i64 op, .string ⟨v.toArray⟩, .int .i64 a, .int .i64 b, .string ⟨u.toArray⟩, .int .i64 c, .int .i64 d] 38))
    go_enter Tryd.func22, Tryd.ntmps22
    go_wp2_with fail
    go_ret
    exact ⟨ret_str Hn.out.symm, HB.out⟩
  by_cases h3 : k = 3
  · subst h3
    have Hn := Lib.hid (show stmtT 3 x op v u a b c d = (cat (cat [111, 117, 116, 32] (exprT op v u a b c d)) [59]) from rfl)
    have s1 := cat_run (P := Tryd.prog) [111, 117, 116, 32] (exprT op v u a b c d) (by have := L1.out; have := HL.out; first | (simp; done) | (simp; omega) | (simp [cat_len]; omega))
    have s2 := cat_run (P := Tryd.prog) (cat [111, 117, 116, 32] (exprT op v u a b c d)) [59] (by have := L1.out; have := HL.out; first | (simp; done) | (simp; omega) | (simp [cat_len]; omega))
    have BE := Lib.hid (Bk.new' w 38 [.int .i64 3, .string ⟨x.toArray⟩, .int .i64 op, .string ⟨v.toArray⟩, .int .i64 a, .int .i64 b, .string ⟨u.toArray⟩, .int .i64 c, .int .i64 d] (g := w.heap.size) (by simp))
    have HB := Lib.hid ((Below.refl w.heap.size w).alloc (Nat.le_refl _) (.cells #[.int .i64 3, .string ⟨x.toArray⟩, .int .i64 op, .string ⟨v.toArray⟩, .int .i64 a, .int .i64 b, .string ⟨u.toArray⟩, .int .i64 c, .int .i64 d] 38))
    go_enter Tryd.func22, Tryd.ntmps22
    go_wp2_with fail
    refine (rexpr_any _ _ _ _ _ _ _ _ (by have := HL.out; omega)).mono ?_
    rintro e w1 ⟨rfl, hB⟩
    have HB1 := Lib.hid hB
    clear hB
    go_wp2_with fail
    go_ret
    exact ⟨ret_str Hn.out.symm, HB.out.trans (HB1.out.mono HB.out.size)⟩
  have Hn := Lib.hid (show stmtT k x op v u a b c d = [] by unfold stmtT; rw [if_neg h1, if_neg h2, if_neg h3])
  have e1 : (k == 1) = false := by simpa using h1
  have e2 : (k == 2) = false := by simpa using h2
  have e3 : (k == 3) = false := by simpa using h3
  have BE := Lib.hid (Bk.new' w 38 [.int .i64 k, .string ⟨x.toArray⟩, .int .i64 op, .string ⟨v.toArray⟩, .int .i64 a, .int .i64 b, .string ⟨u.toArray⟩, .int .i64 c, .int .i64 d] (g := w.heap.size) (by simp))
  have HB := Lib.hid ((Below.refl w.heap.size w).alloc (Nat.le_refl _) (.cells #[.int .i64 k, .string ⟨x.toArray⟩, .int .i64 op, .string ⟨v.toArray⟩, .int .i64 a, .int .i64 b, .string ⟨u.toArray⟩, .int .i64 c, .int .i64 d] 38))
  go_enter Tryd.func22, Tryd.ntmps22
  go_wp2_with fail
  go_ret
  exact ⟨ret_str Hn.out.symm, HB.out⟩

set_option maxHeartbeats 3200000 in
set_option maxRecDepth 100000 in
theorem rterm_any (k : Int) (v : List UInt8) (a b : Int) (x y : List UInt8) (w : World) (hl : x.length + v.length + y.length ≤ 1000000) :
    Calls Tryd.prog 24 #[.agg #[.int .i64 k, .string ⟨v.toArray⟩, .int .i64 a, .int .i64 b, .string ⟨x.toArray⟩, .string ⟨y.toArray⟩]] w fun e w' => e = .returned (.string ⟨(termT k v a b x y).toArray⟩) ∧ Below w.heap.size w w' := by
  have l1 := atomT_len v a b
  have L1 := Lib.hid l1
  have HL := Lib.hid hl
  clear l1 hl
  by_cases h1 : k = 1
  · subst h1
    have Hn := Lib.hid (show termT 1 v a b x y = (cat (cat [103, 111, 116, 111, 32] x) [59]) from rfl)
    have s1 := cat_run (P := Tryd.prog) [103, 111, 116, 111, 32] x (by have := L1.out; have := HL.out; first | (simp; done) | (simp; omega) | (simp [cat_len]; omega))
    have s2 := cat_run (P := Tryd.prog) (cat [103, 111, 116, 111, 32] x) [59] (by have := L1.out; have := HL.out; first | (simp; done) | (simp; omega) | (simp [cat_len]; omega))
    have BE := Lib.hid (Bk.new' w 40 [.int .i64 1, .string ⟨v.toArray⟩, .int .i64 a, .int .i64 b, .string ⟨x.toArray⟩, .string ⟨y.toArray⟩] (g := w.heap.size) (by simp))
    have HB := Lib.hid ((Below.refl w.heap.size w).alloc (Nat.le_refl _) (.cells #[.int .i64 1, .string ⟨v.toArray⟩, .int .i64 a, .int .i64 b, .string ⟨x.toArray⟩, .string ⟨y.toArray⟩] 40))
    go_enter Tryd.func24, Tryd.ntmps24
    go_wp2_with fail
    go_ret
    exact ⟨ret_str Hn.out.symm, HB.out⟩
  by_cases h2 : k = 2
  · subst h2
    have Hn := Lib.hid (show termT 2 v a b x y = (cat (cat (cat (cat (cat (cat [105, 102, 32] (atomT v a b)) [32, 116, 104, 101, 110, 32]) x) [32, 101, 108, 115, 101, 32]) y) [59]) from rfl)
    have s1 := cat_run (P := Tryd.prog) [105, 102, 32] (atomT v a b) (by have := L1.out; have := HL.out; first | (simp; done) | (simp; omega) | (simp [cat_len]; omega))
    have s2 := cat_run (P := Tryd.prog) (cat [105, 102, 32] (atomT v a b)) [32, 116, 104, 101, 110, 32] (by have := L1.out; have := HL.out; first | (simp; done) | (simp; omega) | (simp [cat_len]; omega))
    have s3 := cat_run (P := Tryd.prog) (cat (cat [105, 102, 32] (atomT v a b)) [32, 116, 104, 101, 110, 32]) x (by have := L1.out; have := HL.out; first | (simp; done) | (simp; omega) | (simp [cat_len]; omega))
    have s4 := cat_run (P := Tryd.prog) (cat (cat (cat [105, 102, 32] (atomT v a b)) [32, 116, 104, 101, 110, 32]) x) [32, 101, 108, 115, 101, 32] (by have := L1.out; have := HL.out; first | (simp; done) | (simp; omega) | (simp [cat_len]; omega))
    have s5 := cat_run (P := Tryd.prog) (cat (cat (cat (cat [105, 102, 32] (atomT v a b)) [32, 116, 104, 101, 110, 32]) x) [32, 101, 108, 115, 101, 32]) y (by have := L1.out; have := HL.out; first | (simp; done) | (simp; omega) | (simp [cat_len]; omega))
    have s6 := cat_run (P := Tryd.prog) (cat (cat (cat (cat (cat [105, 102, 32] (atomT v a b)) [32, 116, 104, 101, 110, 32]) x) [32, 101, 108, 115, 101, 32]) y) [59] (by have := L1.out; have := HL.out; first | (simp; done) | (simp; omega) | (simp [cat_len]; omega))
    have BE := Lib.hid (Bk.new' w 40 [.int .i64 2, .string ⟨v.toArray⟩, .int .i64 a, .int .i64 b, .string ⟨x.toArray⟩, .string ⟨y.toArray⟩] (g := w.heap.size) (by simp))
    have HB := Lib.hid ((Below.refl w.heap.size w).alloc (Nat.le_refl _) (.cells #[.int .i64 2, .string ⟨v.toArray⟩, .int .i64 a, .int .i64 b, .string ⟨x.toArray⟩, .string ⟨y.toArray⟩] 40))
    go_enter Tryd.func24, Tryd.ntmps24
    go_wp2_with fail
    go_region_held3 (fun w' => w'.cell? ⟨w.heap.size, 0, none⟩ = some (.int .i64 2) ∧ w'.cell? ⟨w.heap.size, 1, none⟩ = some (.string ⟨v.toArray⟩) ∧ w'.cell? ⟨w.heap.size, 2, none⟩ = some (.int .i64 a) ∧ w'.cell? ⟨w.heap.size, 3, none⟩ = some (.int .i64 b) ∧ w'.cell? ⟨w.heap.size, 4, none⟩ = some (.string ⟨x.toArray⟩) ∧ w'.cell? ⟨w.heap.size, 5, none⟩ = some (.string ⟨y.toArray⟩) ∧ Below w.heap.size w w')
      (first
        | exact ⟨BE.out.cell 0, BE.out.cell 1, BE.out.cell 2, BE.out.cell 3, BE.out.cell 4, BE.out.cell 5, HB.out.drew⟩
        | (go_split_ands; exact ⟨keepc (by assumption) hB, keepc (by assumption) hB, keepc (by assumption) hB, keepc (by assumption) hB, keepc (by assumption) hB, keepc (by assumption) hB, bel_then (by assumption) hB⟩))
      (first
        | (go_at_call 18; go_split_ands; refine (ratom_any _ _ _ _).mono ?_; rintro e w' ⟨rfl, hB⟩))
    all_goals
      go_split_ands
      go_wp2_with fail
      go_ret
      exact ⟨ret_str Hn.out.symm, by assumption⟩
  by_cases h3 : k = 3
  · subst h3
    have Hn := Lib.hid (show termT 3 v a b x y = [114, 101, 116, 59] from rfl)
    have BE := Lib.hid (Bk.new' w 40 [.int .i64 3, .string ⟨v.toArray⟩, .int .i64 a, .int .i64 b, .string ⟨x.toArray⟩, .string ⟨y.toArray⟩] (g := w.heap.size) (by simp))
    have HB := Lib.hid ((Below.refl w.heap.size w).alloc (Nat.le_refl _) (.cells #[.int .i64 3, .string ⟨v.toArray⟩, .int .i64 a, .int .i64 b, .string ⟨x.toArray⟩, .string ⟨y.toArray⟩] 40))
    go_enter Tryd.func24, Tryd.ntmps24
    go_wp2_with fail
    go_ret
    exact ⟨ret_str Hn.out.symm, HB.out⟩
  have Hn := Lib.hid (show termT k v a b x y = [] by unfold termT; rw [if_neg h1, if_neg h2, if_neg h3])
  have e1 : (k == 1) = false := by simpa using h1
  have e2 : (k == 2) = false := by simpa using h2
  have e3 : (k == 3) = false := by simpa using h3
  have BE := Lib.hid (Bk.new' w 40 [.int .i64 k, .string ⟨v.toArray⟩, .int .i64 a, .int .i64 b, .string ⟨x.toArray⟩, .string ⟨y.toArray⟩] (g := w.heap.size) (by simp))
  have HB := Lib.hid ((Below.refl w.heap.size w).alloc (Nat.le_refl _) (.cells #[.int .i64 k, .string ⟨v.toArray⟩, .int .i64 a, .int .i64 b, .string ⟨x.toArray⟩, .string ⟨y.toArray⟩] 40))
  go_enter Tryd.func24, Tryd.ntmps24
  go_wp2_with fail
  go_ret
  exact ⟨ret_str Hn.out.symm, HB.out⟩

end Go.Proofs.YtdifegcpfpdngaaDoor
