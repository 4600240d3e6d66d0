/-
  printer.Expr from any world.
-/
import Derived.Test.YtdifegcpfpdngaaDoorPrint
namespace Go.Proofs.YtdifegcpfpdngaaDoor
open Go.RowKit

/-- An expression's text. -/
def exprT (op : Int) (v u : List UInt8) (a b c d : Int) : List UInt8 :=
  if op = 0 then atomT v a b else if op = 4 then cat [99, 111, 110, 106, 32] (atomT v a b) else if op = 1 then cat (cat (atomT v a b) [32, 43, 32]) (atomT u c d)
  else if op = 2 then cat (cat (atomT v a b) [32, 45, 32]) (atomT u c d) else if op = 3 then cat (cat (atomT v a b) [32, 42, 32]) (atomT u c d) else []
theorem exprT_len (op : Int) (v u : List UInt8) (a b c d : Int) : (exprT op v u a b c d).length ≤ v.length + u.length + 130 := by
  have l1 := atomT_len v a b
  have l2 := atomT_len u c d
  unfold exprT
  repeat' split
  all_goals simp [cat_len]
  all_goals omega

set_option maxHeartbeats 3200000 in
set_option maxRecDepth 100000 in
theorem pexpr_any (op : Int) (v u : List UInt8) (a b c d : Int) (w : World) (ht : Tab w) (hl : v.length + u.length ≤ 1000000) :
    Calls Tryd.prog 19 #[.agg #[.int .i64 op, .string ⟨v.toArray⟩, .int .i64 a, .int .i64 b, .string ⟨u.toArray⟩, .int .i64 c, .int .i64 d]] w fun e w' => e = .returned (.string ⟨(exprT op v u a b c d).toArray⟩) ∧ Below w.heap.size w w' := by
  have Ht := Lib.hid ht
  clear ht
  have l1 := atomT_len v a b
  have l2 := atomT_len u c d
  have L1 := Lib.hid (And.intro l1 l2)
  have HL := Lib.hid hl
  clear l1 l2 hl
  by_cases h1 : op = 1
  · subst h1
    have Hn := Lib.hid (show exprT 1 v u a b c d = cat (cat (atomT v a b) [32, 43, 32]) (atomT u c d) from rfl)
    have s1 := cat_run (P := Tryd.prog) (atomT v a b) [32, 43, 32] (by have := L1.out; have := HL.out; simp; omega)
    have s2 := cat_run (P := Tryd.prog) (cat (atomT v a b) [32, 43, 32]) (atomT u c d) (by have := L1.out; have := HL.out; first | (simp; done) | (simp; omega) | (simp [cat_len]; omega))
    have BE := Lib.hid ((Bk.new w 36 [.int .i64 1, .string ⟨v.toArray⟩, .int .i64 a, .int .i64 b, .string ⟨u.toArray⟩, .int .i64 c, .int .i64 d]).alloc (.cells #[.string ⟨#[]⟩, .string ⟨#[32, 43, 32]⟩, .string ⟨#[32, 45, 32]⟩, .string ⟨#[32, 42, 32]⟩] 66))
    have BA := Lib.hid (Bk.new' (w.alloc (.cells #[.int .i64 1, .string ⟨v.toArray⟩, .int .i64 a, .int .i64 b, .string ⟨u.toArray⟩, .int .i64 c, .int .i64 d] 36)) 66 [.string ⟨#[]⟩, .string ⟨#[32, 43, 32]⟩, .string ⟨#[32, 45, 32]⟩, .string ⟨#[32, 42, 32]⟩] (g := w.heap.size + 1) (by simp))
    have HB := Lib.hid (((Below.refl w.heap.size w).alloc (Nat.le_refl _) (.cells #[.int .i64 1, .string ⟨v.toArray⟩, .int .i64 a, .int .i64 b, .string ⟨u.toArray⟩, .int .i64 c, .int .i64 d] 36)).alloc (by simp) (.cells #[.string ⟨#[]⟩, .string ⟨#[32, 43, 32]⟩, .string ⟨#[32, 45, 32]⟩, .string ⟨#[32, 42, 32]⟩] 66))
    go_enter Tryd.func19, Tryd.ntmps19
    go_wp2_with fail
    go_region_held3 (fun w' => w'.cell? ⟨w.heap.size, 0, none⟩ = some (.int .i64 1) ∧ w'.cell? ⟨w.heap.size, 1, none⟩ = some (.string ⟨v.toArray⟩) ∧ w'.cell? ⟨w.heap.size, 2, none⟩ = some (.int .i64 a) ∧ w'.cell? ⟨w.heap.size, 3, none⟩ = some (.int .i64 b) ∧ w'.cell? ⟨w.heap.size, 4, none⟩ = some (.string ⟨u.toArray⟩) ∧ w'.cell? ⟨w.heap.size, 5, none⟩ = some (.int .i64 c) ∧ w'.cell? ⟨w.heap.size, 6, none⟩ = some (.int .i64 d) ∧ w'.cell? ⟨w.heap.size + 1, 1, none⟩ = some (.string ⟨#[32, 43, 32]⟩) ∧ Below w.heap.size w w')
      (first
        | exact ⟨BE.out.cell 0, BE.out.cell 1, BE.out.cell 2, BE.out.cell 3, BE.out.cell 4, BE.out.cell 5, BE.out.cell 6, BA.out.cell 1, HB.out.drew⟩
        | (go_split_ands; exact ⟨keepc (by assumption) hB, keepc (by assumption) hB, keepc (by assumption) hB, keepc (by assumption) hB, keepc (by assumption) hB, keepc (by assumption) hB, keepc (by assumption) hB, keepc (by assumption) hB, bel_then (by assumption) hB⟩))
      (first
        | (go_at_call 17; go_split_ands; refine (patom_any _ _ _ _ (Ht.out.below (by assumption))).mono ?_; rintro e w' ⟨rfl, hB⟩))
    all_goals
      go_split_ands
      go_wp2_with fail
      go_ret
      exact ⟨ret_str Hn.out.symm, by assumption⟩
  by_cases h2 : op = 2
  · subst h2
    have Hn := Lib.hid (show exprT 2 v u a b c d = cat (cat (atomT v a b) [32, 45, 32]) (atomT u c d) from rfl)
    have s1 := cat_run (P := Tryd.prog) (atomT v a b) [32, 45, 32] (by have := L1.out; have := HL.out; simp; omega)
    have s2 := cat_run (P := Tryd.prog) (cat (atomT v a b) [32, 45, 32]) (atomT u c d) (by have := L1.out; have := HL.out; first | (simp; done) | (simp; omega) | (simp [cat_len]; omega))
    have BE := Lib.hid ((Bk.new w 36 [.int .i64 2, .string ⟨v.toArray⟩, .int .i64 a, .int .i64 b, .string ⟨u.toArray⟩, .int .i64 c, .int .i64 d]).alloc (.cells #[.string ⟨#[]⟩, .string ⟨#[32, 43, 32]⟩, .string ⟨#[32, 45, 32]⟩, .string ⟨#[32, 42, 32]⟩] 66))
    have BA := Lib.hid (Bk.new' (w.alloc (.cells #[.int .i64 2, .string ⟨v.toArray⟩, .int .i64 a, .int .i64 b, .string ⟨u.toArray⟩, .int .i64 c, .int .i64 d] 36)) 66 [.string ⟨#[]⟩, .string ⟨#[32, 43, 32]⟩, .string ⟨#[32, 45, 32]⟩, .string ⟨#[32, 42, 32]⟩] (g := w.heap.size + 1) (by simp))
    have HB := Lib.hid (((Below.refl w.heap.size w).alloc (Nat.le_refl _) (.cells #[.int .i64 2, .string ⟨v.toArray⟩, .int .i64 a, .int .i64 b, .string ⟨u.toArray⟩, .int .i64 c, .int .i64 d] 36)).alloc (by simp) (.cells #[.string ⟨#[]⟩, .string ⟨#[32, 43, 32]⟩, .string ⟨#[32, 45, 32]⟩, .string ⟨#[32, 42, 32]⟩] 66))
    go_enter Tryd.func19, Tryd.ntmps19
    go_wp2_with fail
    go_region_held3 (fun w' => w'.cell? ⟨w.heap.size, 0, none⟩ = some (.int .i64 2) ∧ w'.cell? ⟨w.heap.size, 1, none⟩ = some (.string ⟨v.toArray⟩) ∧ w'.cell? ⟨w.heap.size, 2, none⟩ = some (.int .i64 a) ∧ w'.cell? ⟨w.heap.size, 3, none⟩ = some (.int .i64 b) ∧ w'.cell? ⟨w.heap.size, 4, none⟩ = some (.string ⟨u.toArray⟩) ∧ w'.cell? ⟨w.heap.size, 5, none⟩ = some (.int .i64 c) ∧ w'.cell? ⟨w.heap.size, 6, none⟩ = some (.int .i64 d) ∧ w'.cell? ⟨w.heap.size + 1, 2, none⟩ = some (.string ⟨#[32, 45, 32]⟩) ∧ Below w.heap.size w w')
      (first
        | exact ⟨BE.out.cell 0, BE.out.cell 1, BE.out.cell 2, BE.out.cell 3, BE.out.cell 4, BE.out.cell 5, BE.out.cell 6, BA.out.cell 2, HB.out.drew⟩
        | (go_split_ands; exact ⟨keepc (by assumption) hB, keepc (by assumption) hB, keepc (by assumption) hB, keepc (by assumption) hB, keepc (by assumption) hB, keepc (by assumption) hB, keepc (by assumption) hB, keepc (by assumption) hB, bel_then (by assumption) hB⟩))
      (first
        | (go_at_call 17; go_split_ands; refine (patom_any _ _ _ _ (Ht.out.below (by assumption))).mono ?_; rintro e w' ⟨rfl, hB⟩))
    all_goals
      go_split_ands
      go_wp2_with fail
      go_ret
      exact ⟨ret_str Hn.out.symm, by assumption⟩
  by_cases h3 : op = 3
  · subst h3
    have Hn := Lib.hid (show exprT 3 v u a b c d = cat (cat (atomT v a b) [32, 42, 32]) (atomT u c d) from rfl)
    have s1 := cat_run (P := Tryd.prog) (atomT v a b) [32, 42, 32] (by have := L1.out; have := HL.out; simp; omega)
    have s2 := cat_run (P := Tryd.prog) (cat (atomT v a b) [32, 42, 32]) (atomT u c d) (by have := L1.out; have := HL.out; first | (simp; done) | (simp; omega) | (simp [cat_len]; omega))
    have BE := Lib.hid ((Bk.new w 36 [.int .i64 3, .string ⟨v.toArray⟩, .int .i64 a, .int .i64 b, .string ⟨u.toArray⟩, .int .i64 c, .int .i64 d]).alloc (.cells #[.string ⟨#[]⟩, .string ⟨#[32, 43, 32]⟩, .string ⟨#[32, 45, 32]⟩, .string ⟨#[32, 42, 32]⟩] 66))
    have BA := Lib.hid (Bk.new' (w.alloc (.cells #[.int .i64 3, .string ⟨v.toArray⟩, .int .i64 a, .int .i64 b, .string ⟨u.toArray⟩, .int .i64 c, .int .i64 d] 36)) 66 [.string ⟨#[]⟩, .string ⟨#[32, 43, 32]⟩, .string ⟨#[32, 45, 32]⟩, .string ⟨#[32, 42, 32]⟩] (g := w.heap.size + 1) (by simp))
    have HB := Lib.hid (((Below.refl w.heap.size w).alloc (Nat.le_refl _) (.cells #[.int .i64 3, .string ⟨v.toArray⟩, .int .i64 a, .int .i64 b, .string ⟨u.toArray⟩, .int .i64 c, .int .i64 d] 36)).alloc (by simp) (.cells #[.string ⟨#[]⟩, .string ⟨#[32, 43, 32]⟩, .string ⟨#[32, 45, 32]⟩, .string ⟨#[32, 42, 32]⟩] 66))
    go_enter Tryd.func19, Tryd.ntmps19
    go_wp2_with fail
    go_region_held3 (fun w' => w'.cell? ⟨w.heap.size, 0, none⟩ = some (.int .i64 3) ∧ w'.cell? ⟨w.heap.size, 1, none⟩ = some (.string ⟨v.toArray⟩) ∧ w'.cell? ⟨w.heap.size, 2, none⟩ = some (.int .i64 a) ∧ w'.cell? ⟨w.heap.size, 3, none⟩ = some (.int .i64 b) ∧ w'.cell? ⟨w.heap.size, 4, none⟩ = some (.string ⟨u.toArray⟩) ∧ w'.cell? ⟨w.heap.size, 5, none⟩ = some (.int .i64 c) ∧ w'.cell? ⟨w.heap.size, 6, none⟩ = some (.int .i64 d) ∧ w'.cell? ⟨w.heap.size + 1, 3, none⟩ = some (.string ⟨#[32, 42, 32]⟩) ∧ Below w.heap.size w w')
      (first
        | exact ⟨BE.out.cell 0, BE.out.cell 1, BE.out.cell 2, BE.out.cell 3, BE.out.cell 4, BE.out.cell 5, BE.out.cell 6, BA.out.cell 3, HB.out.drew⟩
        | (go_split_ands; exact ⟨keepc (by assumption) hB, keepc (by assumption) hB, keepc (by assumption) hB, keepc (by assumption) hB, keepc (by assumption) hB, keepc (by assumption) hB, keepc (by assumption) hB, keepc (by assumption) hB, bel_then (by assumption) hB⟩))
      (first
        | (go_at_call 17; go_split_ands; refine (patom_any _ _ _ _ (Ht.out.below (by assumption))).mono ?_; rintro e w' ⟨rfl, hB⟩))
    all_goals
      go_split_ands
      go_wp2_with fail
      go_ret
      exact ⟨ret_str Hn.out.symm, by assumption⟩
  by_cases h0 : op = 0
  · subst h0
    have Hn := Lib.hid (show exprT 0 v u a b c d = atomT v a b from rfl)
    have BE := Lib.hid ((Bk.new w 36 [.int .i64 0, .string ⟨v.toArray⟩, .int .i64 a, .int .i64 b, .string ⟨u.toArray⟩, .int .i64 c, .int .i64 d]).alloc (.cells #[.string ⟨#[]⟩, .string ⟨#[32, 43, 32]⟩, .string ⟨#[32, 45, 32]⟩, .string ⟨#[32, 42, 32]⟩] 66))
    have BA := Lib.hid (Bk.new' (w.alloc (.cells #[.int .i64 0, .string ⟨v.toArray⟩, .int .i64 a, .int .i64 b, .string ⟨u.toArray⟩, .int .i64 c, .int .i64 d] 36)) 66 [.string ⟨#[]⟩, .string ⟨#[32, 43, 32]⟩, .string ⟨#[32, 45, 32]⟩, .string ⟨#[32, 42, 32]⟩] (g := w.heap.size + 1) (by simp))
    have HB := Lib.hid (((Below.refl w.heap.size w).alloc (Nat.le_refl _) (.cells #[.int .i64 0, .string ⟨v.toArray⟩, .int .i64 a, .int .i64 b, .string ⟨u.toArray⟩, .int .i64 c, .int .i64 d] 36)).alloc (by simp) (.cells #[.string ⟨#[]⟩, .string ⟨#[32, 43, 32]⟩, .string ⟨#[32, 45, 32]⟩, .string ⟨#[32, 42, 32]⟩] 66))
    go_enter Tryd.func19, Tryd.ntmps19
    go_wp2_with fail
    refine (patom_any _ _ _ _ (Ht.out.below HB.out)).mono ?_
    rintro e w1 ⟨rfl, hB⟩
    have HB1 := Lib.hid hB
    clear hB
    go_wp2_with fail
    go_ret
    exact ⟨ret_str Hn.out.symm, HB.out.trans (HB1.out.mono HB.out.size)⟩
  by_cases h4 : op = 4
  · subst h4
    have Hn := Lib.hid (show exprT 4 v u a b c d = cat [99, 111, 110, 106, 32] (atomT v a b) from rfl)
    have s1 := cat_run (P := Tryd.prog) [99, 111, 110, 106, 32] (atomT v a b) (by have := L1.out; have := HL.out; simp; omega)
    have BE := Lib.hid ((Bk.new w 36 [.int .i64 4, .string ⟨v.toArray⟩, .int .i64 a, .int .i64 b, .string ⟨u.toArray⟩, .int .i64 c, .int .i64 d]).alloc (.cells #[.string ⟨#[]⟩, .string ⟨#[32, 43, 32]⟩, .string ⟨#[32, 45, 32]⟩, .string ⟨#[32, 42, 32]⟩] 66))
    have BA := Lib.hid (Bk.new' (w.alloc (.cells #[.int .i64 4, .string ⟨v.toArray⟩, .int .i64 a, .int .i64 b, .string ⟨u.toArray⟩, .int .i64 c, .int .i64 d] 36)) 66 [.string ⟨#[]⟩, .string ⟨#[32, 43, 32]⟩, .string ⟨#[32, 45, 32]⟩, .string ⟨#[32, 42, 32]⟩] (g := w.heap.size + 1) (by simp))
    have HB := Lib.hid (((Below.refl w.heap.size w).alloc (Nat.le_refl _) (.cells #[.int .i64 4, .string ⟨v.toArray⟩, .int .i64 a, .int .i64 b, .string ⟨u.toArray⟩, .int .i64 c, .int .i64 d] 36)).alloc (by simp) (.cells #[.string ⟨#[]⟩, .string ⟨#[32, 43, 32]⟩, .string ⟨#[32, 45, 32]⟩, .string ⟨#[32, 42, 32]⟩] 66))
    go_enter Tryd.func19, Tryd.ntmps19
    go_wp2_with fail
    refine (patom_any _ _ _ _ (Ht.out.below HB.out)).mono ?_
    rintro e w1 ⟨rfl, hB⟩
    have HB1 := Lib.hid hB
    clear hB
    go_wp2_with fail
    go_ret
    exact ⟨ret_str Hn.out.symm, HB.out.trans (HB1.out.mono HB.out.size)⟩
  have Hn := Lib.hid (show exprT op v u a b c d = [] by unfold exprT; rw [if_neg h0, if_neg h4, if_neg h1, if_neg h2, if_neg h3])
  have e0 : (op == 0) = false := by simpa using h0
  have e1 : (op == 1) = false := by simpa using h1
  have e2 : (op == 2) = false := by simpa using h2
  have e3 : (op == 3) = false := by simpa using h3
  have e4 : (op == 4) = false := by simpa using h4
  have BE := Lib.hid ((Bk.new w 36 [.int .i64 op, .string ⟨v.toArray⟩, .int .i64 a, .int .i64 b, .string ⟨u.toArray⟩, .int .i64 c, .int .i64 d]).alloc (.cells #[.string ⟨#[]⟩, .string ⟨#[32, 43, 32]⟩, .string ⟨#[32, 45, 32]⟩, .string ⟨#[32, 42, 32]⟩] 66))
  have BA := Lib.hid (Bk.new' (w.alloc (.cells #[.int .i64 op, .string ⟨v.toArray⟩, .int .i64 a, .int .i64 b, .string ⟨u.toArray⟩, .int .i64 c, .int .i64 d] 36)) 66 [.string ⟨#[]⟩, .string ⟨#[32, 43, 32]⟩, .string ⟨#[32, 45, 32]⟩, .string ⟨#[32, 42, 32]⟩] (g := w.heap.size + 1) (by simp))
  have HB := Lib.hid (((Below.refl w.heap.size w).alloc (Nat.le_refl _) (.cells #[.int .i64 op, .string ⟨v.toArray⟩, .int .i64 a, .int .i64 b, .string ⟨u.toArray⟩, .int .i64 c, .int .i64 d] 36)).alloc (by simp) (.cells #[.string ⟨#[]⟩, .string ⟨#[32, 43, 32]⟩, .string ⟨#[32, 45, 32]⟩, .string ⟨#[32, 42, 32]⟩] 66))
  go_enter Tryd.func19, Tryd.ntmps19
  go_wp2_with fail
  go_ret
  exact ⟨ret_str Hn.out.symm, HB.out⟩

end Go.Proofs.YtdifegcpfpdngaaDoor
