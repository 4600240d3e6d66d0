/-
  printer.Stmt, printer.Term from any world.
-/
import Derived.Test.YtdifegcpfpdngaaDoorPrint2
namespace Go.Proofs.YtdifegcpfpdngaaDoor
open Go.RowKit

/-- A statement's text. -/
def stmtT (k : Int) (x : List UInt8) (op : Int) (v u : List UInt8) (a b c d : Int) : List UInt8 :=
  if k = 1 then cat (cat (cat x [32, 61, 32]) (exprT op v u a b c d)) [59] else if k = 2 then cat (cat [105, 110, 32] x) [59] else if k = 3 then cat (cat [111, 117, 116, 32] (exprT op v u a b c d)) [59] else []
/-- An end's. -/
def termT (k : Int) (v : List UInt8) (a b : Int) (x y : List UInt8) : List UInt8 :=
  if k = 1 then cat (cat [103, 111, 116, 111, 32] x) [59] else if k = 2 then cat (cat (cat (cat (cat (cat [105, 102, 32] (atomT v a b)) [32, 116, 104, 101, 110, 32]) x) [32, 101, 108, 115, 101, 32]) y) [59] else if k = 3 then cat [114, 101, 116] [59] else []

set_option maxHeartbeats 3200000 in
set_option maxRecDepth 100000 in
theorem pstmt_any (k : Int) (x : List UInt8) (op : Int) (v u : List UInt8) (a b c d : Int) (w : World) (ht : Tab w) (hl : x.length + v.length + u.length ≤ 1000000) :
    Calls Tryd.prog 21 #[.agg #[.int .i64 k, .string ⟨x.toArray⟩, .int .i64 op, .string ⟨v.toArray⟩, .int .i64 a, .int .i64 b, .string ⟨u.toArray⟩, .int .i64 c, .int .i64 d]] w fun e w' => e = .returned (.string ⟨(stmtT k x op v u a b c d).toArray⟩) ∧ Below w.heap.size w w' := by
  have Ht := Lib.hid ht
  clear ht
  have l1 := exprT_len op v u a b c d
  have L1 := Lib.hid l1
  have HL := Lib.hid hl
  clear l1 hl
  by_cases h1 : k = 1
  · subst h1
    have Hn := Lib.hid (show stmtT 1 x op v u a b c d = (cat (cat (cat (x) [32, 61, 32]) (exprT op v u a b c d)) [59]) from rfl)
    have s1 := cat_run (P := Tryd.prog) (x) [32, 61, 32] (by have := L1.out; have := HL.out; first | (simp; done) | (simp; omega) | (simp [cat_len]; omega))
    have s2 := cat_run (P := Tryd.prog) (cat (x) [32, 61, 32]) (exprT op v u a b c d) (by have := L1.out; have := HL.out; first | (simp; done) | (simp; omega) | (simp [cat_len]; omega))
    have s3 := cat_run (P := Tryd.prog) (cat (cat (x) [32, 61, 32]) (exprT op v u a b c d)) [59] (by have := L1.out; have := HL.out; first | (simp; done) | (simp; omega) | (simp [cat_len]; omega))
    have BE := Lib.hid ((Bk.new' w 38 [.int .i64 1, .string ⟨x.toArray⟩, .int .i64 op, .string ⟨v.toArray⟩, .int .i64 a, .int .i64 b, .string ⟨u.toArray⟩, .int .i64 c, .int .i64 d] (g := w.heap.size) (by simp)).alloc (.cells #[.string ⟨#[]⟩, .string ⟨(cat x [32, 61, 32]).toArray⟩, .string ⟨#[105, 110, 32]⟩, .string ⟨#[111, 117, 116, 32]⟩] 66))
    have BA := Lib.hid (Bk.new' (w.alloc (.cells #[.int .i64 1, .string ⟨x.toArray⟩, .int .i64 op, .string ⟨v.toArray⟩, .int .i64 a, .int .i64 b, .string ⟨u.toArray⟩, .int .i64 c, .int .i64 d] 38)) 66 [.string ⟨#[]⟩, .string ⟨(cat x [32, 61, 32]).toArray⟩, .string ⟨#[105, 110, 32]⟩, .string ⟨#[111, 117, 116, 32]⟩] (g := w.heap.size + 1) (by simp))
    have HB := Lib.hid (((Below.refl w.heap.size w).alloc (Nat.le_refl _) (.cells #[.int .i64 1, .string ⟨x.toArray⟩, .int .i64 op, .string ⟨v.toArray⟩, .int .i64 a, .int .i64 b, .string ⟨u.toArray⟩, .int .i64 c, .int .i64 d] 38)).alloc (by simp) (.cells #[.string ⟨#[]⟩, .string ⟨(cat x [32, 61, 32]).toArray⟩, .string ⟨#[105, 110, 32]⟩, .string ⟨#[111, 117, 116, 32]⟩] 66))
    go_enter Tryd.func21, Tryd.ntmps21
    go_wp2_with fail
    go_region_held3 (fun w' => w'.cell? ⟨w.heap.size, 0, none⟩ = some (.int .i64 1) ∧ w'.cell? ⟨w.heap.size, 1, none⟩ = some (.string ⟨x.toArray⟩) ∧ w'.cell? ⟨w.heap.size, 2, none⟩ = some (.int .i64 op) ∧ w'.cell? ⟨w.heap.size, 3, none⟩ = some (.string ⟨v.toArray⟩) ∧ w'.cell? ⟨w.heap.size, 4, none⟩ = some (.int .i64 a) ∧ w'.cell? ⟨w.heap.size, 5, none⟩ = some (.int .i64 b) ∧ w'.cell? ⟨w.heap.size, 6, none⟩ = some (.string ⟨u.toArray⟩) ∧ w'.cell? ⟨w.heap.size, 7, none⟩ = some (.int .i64 c) ∧ w'.cell? ⟨w.heap.size, 8, none⟩ = some (.int .i64 d) ∧ w'.cell? ⟨w.heap.size + 1, 1, none⟩ = some (.string ⟨(cat x [32, 61, 32]).toArray⟩) ∧ Below w.heap.size w w')
      (first
        | exact ⟨BE.out.cell 0, BE.out.cell 1, BE.out.cell 2, BE.out.cell 3, BE.out.cell 4, BE.out.cell 5, BE.out.cell 6, BE.out.cell 7, BE.out.cell 8, BA.out.cell 1, HB.out.drew⟩
        | (go_split_ands; exact ⟨keepc (by assumption) hB, keepc (by assumption) hB, keepc (by assumption) hB, keepc (by assumption) hB, keepc (by assumption) hB, keepc (by assumption) hB, keepc (by assumption) hB, keepc (by assumption) hB, keepc (by assumption) hB, keepc (by assumption) hB, bel_then (by assumption) hB⟩))
      (first
        | (go_at_call 19; go_split_ands; refine (pexpr_any _ _ _ _ _ _ _ _ (Ht.out.below (by assumption)) (by have := HL.out; omega)).mono ?_; rintro e w' ⟨rfl, hB⟩))
    all_goals
      go_split_ands
      go_wp2_with fail
      go_ret
      exact ⟨ret_str Hn.out.symm, by assumption⟩
  by_cases h2 : k = 2
  · subst h2
    have Hn := Lib.hid (show stmtT 2 x op v u a b c d = (cat (cat [105, 110, 32] x) [59]) from rfl)
    have s1 := cat_run (P := Tryd.prog) [105, 110, 32] x (by have := L1.out; have := HL.out; first | (simp; done) | (simp; omega) | (simp [cat_len]; omega))
    have s2 := cat_run (P := Tryd.prog) (cat [105, 110, 32] x) [59] (by have := L1.out; have := HL.out; first | (simp; done) | (simp; omega) | (simp [cat_len]; omega))
    have s0 := cat_run (P := Tryd.prog) x [32, 61, 32] (by have := L1.out; have := HL.out; simp; omega)
    have BE := Lib.hid ((Bk.new' w 38 [.int .i64 2, .string ⟨x.toArray⟩, .int .i64 op, .string ⟨v.toArray⟩, .int .i64 a, .int .i64 b, .string ⟨u.toArray⟩, .int .i64 c, .int .i64 d] (g := w.heap.size) (by simp)).alloc (.cells #[.string ⟨#[]⟩, .string ⟨(cat x [32, 61, 32]).toArray⟩, .string ⟨#[105, 110, 32]⟩, .string ⟨#[111, 117, 116, 32]⟩] 66))
    have BA := Lib.hid (Bk.new' (w.alloc (.cells #[.int .i64 2, .string ⟨x.toArray⟩, .int .i64 op, .string ⟨v.toArray⟩, .int .i64 a, .int .i64 b, .string ⟨u.toArray⟩, .int .i64 c, .int .i64 d] 38)) 66 [.string ⟨#[]⟩, .string ⟨(cat x [32, 61, 32]).toArray⟩, .string ⟨#[105, 110, 32]⟩, .string ⟨#[111, 117, 116, 32]⟩] (g := w.heap.size + 1) (by simp))
    have HB := Lib.hid (((Below.refl w.heap.size w).alloc (Nat.le_refl _) (.cells #[.int .i64 2, .string ⟨x.toArray⟩, .int .i64 op, .string ⟨v.toArray⟩, .int .i64 a, .int .i64 b, .string ⟨u.toArray⟩, .int .i64 c, .int .i64 d] 38)).alloc (by simp) (.cells #[.string ⟨#[]⟩, .string ⟨(cat x [32, 61, 32]).toArray⟩, .string ⟨#[105, 110, 32]⟩, .string ⟨#[111, 117, 116, 32]⟩] 66))
    go_enter Tryd.func21, Tryd.ntmps21
    go_wp2_with fail
    go_quiet (fail)
    go_wp2_with fail
    go_ret
    exact ⟨ret_str Hn.out.symm, bel_drewN HB.out _⟩
  by_cases h3 : k = 3
  · subst h3
    have Hn := Lib.hid (show stmtT 3 x op v u a b c d = (cat (cat [111, 117, 116, 32] (exprT op v u a b c d)) [59]) from rfl)
    have s1 := cat_run (P := Tryd.prog) [111, 117, 116, 32] (exprT op v u a b c d) (by have := L1.out; have := HL.out; first | (simp; done) | (simp; omega) | (simp [cat_len]; omega))
    have s2 := cat_run (P := Tryd.prog) (cat [111, 117, 116, 32] (exprT op v u a b c d)) [59] (by have := L1.out; have := HL.out; first | (simp; done) | (simp; omega) | (simp [cat_len]; omega))
    have s0 := cat_run (P := Tryd.prog) x [32, 61, 32] (by have := L1.out; have := HL.out; simp; omega)
    have BE := Lib.hid ((Bk.new' w 38 [.int .i64 3, .string ⟨x.toArray⟩, .int .i64 op, .string ⟨v.toArray⟩, .int .i64 a, .int .i64 b, .string ⟨u.toArray⟩, .int .i64 c, .int .i64 d] (g := w.heap.size) (by simp)).alloc (.cells #[.string ⟨#[]⟩, .string ⟨(cat x [32, 61, 32]).toArray⟩, .string ⟨#[105, 110, 32]⟩, .string ⟨#[111, 117, 116, 32]⟩] 66))
    have BA := Lib.hid (Bk.new' (w.alloc (.cells #[.int .i64 3, .string ⟨x.toArray⟩, .int .i64 op, .string ⟨v.toArray⟩, .int .i64 a, .int .i64 b, .string ⟨u.toArray⟩, .int .i64 c, .int .i64 d] 38)) 66 [.string ⟨#[]⟩, .string ⟨(cat x [32, 61, 32]).toArray⟩, .string ⟨#[105, 110, 32]⟩, .string ⟨#[111, 117, 116, 32]⟩] (g := w.heap.size + 1) (by simp))
    have HB := Lib.hid (((Below.refl w.heap.size w).alloc (Nat.le_refl _) (.cells #[.int .i64 3, .string ⟨x.toArray⟩, .int .i64 op, .string ⟨v.toArray⟩, .int .i64 a, .int .i64 b, .string ⟨u.toArray⟩, .int .i64 c, .int .i64 d] 38)).alloc (by simp) (.cells #[.string ⟨#[]⟩, .string ⟨(cat x [32, 61, 32]).toArray⟩, .string ⟨#[105, 110, 32]⟩, .string ⟨#[111, 117, 116, 32]⟩] 66))
    go_enter Tryd.func21, Tryd.ntmps21
    go_wp2_with fail
    go_region_held3 (fun w' => w'.cell? ⟨w.heap.size, 0, none⟩ = some (.int .i64 3) ∧ w'.cell? ⟨w.heap.size, 1, none⟩ = some (.string ⟨x.toArray⟩) ∧ w'.cell? ⟨w.heap.size, 2, none⟩ = some (.int .i64 op) ∧ w'.cell? ⟨w.heap.size, 3, none⟩ = some (.string ⟨v.toArray⟩) ∧ w'.cell? ⟨w.heap.size, 4, none⟩ = some (.int .i64 a) ∧ w'.cell? ⟨w.heap.size, 5, none⟩ = some (.int .i64 b) ∧ w'.cell? ⟨w.heap.size, 6, none⟩ = some (.string ⟨u.toArray⟩) ∧ w'.cell? ⟨w.heap.size, 7, none⟩ = some (.int .i64 c) ∧ w'.cell? ⟨w.heap.size, 8, none⟩ = some (.int .i64 d) ∧ w'.cell? ⟨w.heap.size + 1, 3, none⟩ = some (.string ⟨#[111, 117, 116, 32]⟩) ∧ Below w.heap.size w w')
      (first
        | exact ⟨BE.out.cell 0, BE.out.cell 1, BE.out.cell 2, BE.out.cell 3, BE.out.cell 4, BE.out.cell 5, BE.out.cell 6, BE.out.cell 7, BE.out.cell 8, BA.out.cell 3, HB.out.drew⟩
        | (go_split_ands; exact ⟨keepc (by assumption) hB, keepc (by assumption) hB, keepc (by assumption) hB, keepc (by assumption) hB, keepc (by assumption) hB, keepc (by assumption) hB, keepc (by assumption) hB, keepc (by assumption) hB, keepc (by assumption) hB, keepc (by assumption) hB, bel_then (by assumption) hB⟩))
      (first
        | (go_at_call 19; go_split_ands; refine (pexpr_any _ _ _ _ _ _ _ _ (Ht.out.below (by assumption)) (by have := HL.out; omega)).mono ?_; rintro e w' ⟨rfl, hB⟩))
    all_goals
      go_split_ands
      go_wp2_with fail
      go_ret
      exact ⟨ret_str Hn.out.symm, by assumption⟩
  have Hn := Lib.hid (show stmtT k x op v u a b c d = [] by unfold stmtT; rw [if_neg h1, if_neg h2, if_neg h3])
  have e1 : (k == 1) = false := by simpa using h1
  have e2 : (k == 2) = false := by simpa using h2
  have e3 : (k == 3) = false := by simpa using h3
  have s0 := cat_run (P := Tryd.prog) x [32, 61, 32] (by have := L1.out; have := HL.out; simp; omega)
  have BE := Lib.hid ((Bk.new' w 38 [.int .i64 k, .string ⟨x.toArray⟩, .int .i64 op, .string ⟨v.toArray⟩, .int .i64 a, .int .i64 b, .string ⟨u.toArray⟩, .int .i64 c, .int .i64 d] (g := w.heap.size) (by simp)).alloc (.cells #[.string ⟨#[]⟩, .string ⟨(cat x [32, 61, 32]).toArray⟩, .string ⟨#[105, 110, 32]⟩, .string ⟨#[111, 117, 116, 32]⟩] 66))
  have BA := Lib.hid (Bk.new' (w.alloc (.cells #[.int .i64 k, .string ⟨x.toArray⟩, .int .i64 op, .string ⟨v.toArray⟩, .int .i64 a, .int .i64 b, .string ⟨u.toArray⟩, .int .i64 c, .int .i64 d] 38)) 66 [.string ⟨#[]⟩, .string ⟨(cat x [32, 61, 32]).toArray⟩, .string ⟨#[105, 110, 32]⟩, .string ⟨#[111, 117, 116, 32]⟩] (g := w.heap.size + 1) (by simp))
  have HB := Lib.hid (((Below.refl w.heap.size w).alloc (Nat.le_refl _) (.cells #[.int .i64 k, .string ⟨x.toArray⟩, .int .i64 op, .string ⟨v.toArray⟩, .int .i64 a, .int .i64 b, .string ⟨u.toArray⟩, .int .i64 c, .int .i64 d] 38)).alloc (by simp) (.cells #[.string ⟨#[]⟩, .string ⟨(cat x [32, 61, 32]).toArray⟩, .string ⟨#[105, 110, 32]⟩, .string ⟨#[111, 117, 116, 32]⟩] 66))
  go_enter Tryd.func21, Tryd.ntmps21
  go_wp2_with fail
  go_ret
  exact ⟨ret_str Hn.out.symm, HB.out⟩

set_option maxHeartbeats 3200000 in
set_option maxRecDepth 100000 in
theorem pterm_any (k : Int) (v : List UInt8) (a b : Int) (x y : List UInt8) (w : World) (ht : Tab w) (hl : x.length + v.length + y.length ≤ 1000000) :
    Calls Tryd.prog 23 #[.agg #[.int .i64 k, .string ⟨v.toArray⟩, .int .i64 a, .int .i64 b, .string ⟨x.toArray⟩, .string ⟨y.toArray⟩]] w fun e w' => e = .returned (.string ⟨(termT k v a b x y).toArray⟩) ∧ Below w.heap.size w w' := by
  have Ht := Lib.hid ht
  clear ht
  have l1 := atomT_len v a b
  have L1 := Lib.hid l1
  have HL := Lib.hid hl
  clear l1 hl
  by_cases h1 : k = 1
  · subst h1
    have Hn := Lib.hid (show termT 1 v a b x y = (cat (cat [103, 111, 116, 111, 32] x) [59]) from rfl)
    have s1 := cat_run (P := Tryd.prog) [103, 111, 116, 111, 32] x (by have := L1.out; have := HL.out; first | (simp; done) | (simp; omega) | (simp [cat_len]; omega))
    have s2 := cat_run (P := Tryd.prog) (cat [103, 111, 116, 111, 32] x) [59] (by have := L1.out; have := HL.out; first | (simp; done) | (simp; omega) | (simp [cat_len]; omega))
    have BE := Lib.hid ((Bk.new' w 40 [.int .i64 1, .string ⟨v.toArray⟩, .int .i64 a, .int .i64 b, .string ⟨x.toArray⟩, .string ⟨y.toArray⟩] (g := w.heap.size) (by simp)).alloc (.cells #[.string ⟨#[]⟩, .string ⟨#[103, 111, 116, 111, 32]⟩, .string ⟨#[105, 102, 32]⟩, .string ⟨#[114, 101, 116]⟩] 66))
    have BA := Lib.hid (Bk.new' (w.alloc (.cells #[.int .i64 1, .string ⟨v.toArray⟩, .int .i64 a, .int .i64 b, .string ⟨x.toArray⟩, .string ⟨y.toArray⟩] 40)) 66 [.string ⟨#[]⟩, .string ⟨#[103, 111, 116, 111, 32]⟩, .string ⟨#[105, 102, 32]⟩, .string ⟨#[114, 101, 116]⟩] (g := w.heap.size + 1) (by simp))
    have HB := Lib.hid (((Below.refl w.heap.size w).alloc (Nat.le_refl _) (.cells #[.int .i64 1, .string ⟨v.toArray⟩, .int .i64 a, .int .i64 b, .string ⟨x.toArray⟩, .string ⟨y.toArray⟩] 40)).alloc (by simp) (.cells #[.string ⟨#[]⟩, .string ⟨#[103, 111, 116, 111, 32]⟩, .string ⟨#[105, 102, 32]⟩, .string ⟨#[114, 101, 116]⟩] 66))
    go_enter Tryd.func23, Tryd.ntmps23
    go_wp2_with fail
    go_quiet (fail)
    go_wp2_with fail
    go_ret
    exact ⟨ret_str Hn.out.symm, bel_drewN HB.out _⟩
  by_cases h2 : k = 2
  · subst h2
    have Hn := Lib.hid (show termT 2 v a b x y = (cat (cat (cat (cat (cat (cat [105, 102, 32] (atomT v a b)) [32, 116, 104, 101, 110, 32]) x) [32, 101, 108, 115, 101, 32]) y) [59]) from rfl)
    have s1 := cat_run (P := Tryd.prog) [105, 102, 32] (atomT v a b) (by have := L1.out; have := HL.out; first | (simp; done) | (simp; omega) | (simp [cat_len]; omega))
    have s2 := cat_run (P := Tryd.prog) (cat [105, 102, 32] (atomT v a b)) [32, 116, 104, 101, 110, 32] (by have := L1.out; have := HL.out; first | (simp; done) | (simp; omega) | (simp [cat_len]; omega))
    have s3 := cat_run (P := Tryd.prog) (cat (cat [105, 102, 32] (atomT v a b)) [32, 116, 104, 101, 110, 32]) x (by have := L1.out; have := HL.out; first | (simp; done) | (simp; omega) | (simp [cat_len]; omega))
    have s4 := cat_run (P := Tryd.prog) (cat (cat (cat [105, 102, 32] (atomT v a b)) [32, 116, 104, 101, 110, 32]) x) [32, 101, 108, 115, 101, 32] (by have := L1.out; have := HL.out; first | (simp; done) | (simp; omega) | (simp [cat_len]; omega))
    have s5 := cat_run (P := Tryd.prog) (cat (cat (cat (cat [105, 102, 32] (atomT v a b)) [32, 116, 104, 101, 110, 32]) x) [32, 101, 108, 115, 101, 32]) y (by have := L1.out; have := HL.out; first | (simp; done) | (simp; omega) | (simp [cat_len]; omega))
    have s6 := cat_run (P := Tryd.prog) (cat (cat (cat (cat (cat [105, 102, 32] (atomT v a b)) [32, 116, 104, 101, 110, 32]) x) [32, 101, 108, 115, 101, 32]) y) [59] (by have := L1.out; have := HL.out; first | (simp; done) | (simp; omega) | (simp [cat_len]; omega))
    have BE := Lib.hid ((Bk.new' w 40 [.int .i64 2, .string ⟨v.toArray⟩, .int .i64 a, .int .i64 b, .string ⟨x.toArray⟩, .string ⟨y.toArray⟩] (g := w.heap.size) (by simp)).alloc (.cells #[.string ⟨#[]⟩, .string ⟨#[103, 111, 116, 111, 32]⟩, .string ⟨#[105, 102, 32]⟩, .string ⟨#[114, 101, 116]⟩] 66))
    have BA := Lib.hid (Bk.new' (w.alloc (.cells #[.int .i64 2, .string ⟨v.toArray⟩, .int .i64 a, .int .i64 b, .string ⟨x.toArray⟩, .string ⟨y.toArray⟩] 40)) 66 [.string ⟨#[]⟩, .string ⟨#[103, 111, 116, 111, 32]⟩, .string ⟨#[105, 102, 32]⟩, .string ⟨#[114, 101, 116]⟩] (g := w.heap.size + 1) (by simp))
    have HB := Lib.hid (((Below.refl w.heap.size w).alloc (Nat.le_refl _) (.cells #[.int .i64 2, .string ⟨v.toArray⟩, .int .i64 a, .int .i64 b, .string ⟨x.toArray⟩, .string ⟨y.toArray⟩] 40)).alloc (by simp) (.cells #[.string ⟨#[]⟩, .string ⟨#[103, 111, 116, 111, 32]⟩, .string ⟨#[105, 102, 32]⟩, .string ⟨#[114, 101, 116]⟩] 66))
    go_enter Tryd.func23, Tryd.ntmps23
    go_wp2_with fail
    go_region_held3 (fun w' => w'.cell? ⟨w.heap.size, 0, none⟩ = some (.int .i64 2) ∧ w'.cell? ⟨w.heap.size, 1, none⟩ = some (.string ⟨v.toArray⟩) ∧ w'.cell? ⟨w.heap.size, 2, none⟩ = some (.int .i64 a) ∧ w'.cell? ⟨w.heap.size, 3, none⟩ = some (.int .i64 b) ∧ w'.cell? ⟨w.heap.size, 4, none⟩ = some (.string ⟨x.toArray⟩) ∧ w'.cell? ⟨w.heap.size, 5, none⟩ = some (.string ⟨y.toArray⟩) ∧ w'.cell? ⟨w.heap.size + 1, 2, none⟩ = some (.string ⟨#[105, 102, 32]⟩) ∧ Below w.heap.size w w')
      (first
        | exact ⟨BE.out.cell 0, BE.out.cell 1, BE.out.cell 2, BE.out.cell 3, BE.out.cell 4, BE.out.cell 5, BA.out.cell 2, HB.out.drew⟩
        | (go_split_ands; exact ⟨keepc (by assumption) hB, keepc (by assumption) hB, keepc (by assumption) hB, keepc (by assumption) hB, keepc (by assumption) hB, keepc (by assumption) hB, keepc (by assumption) hB, bel_then (by assumption) hB⟩))
      (first
        | (go_at_call 17; go_split_ands; refine (patom_any _ _ _ _ (Ht.out.below (by assumption))).mono ?_; rintro e w' ⟨rfl, hB⟩))
    all_goals
      go_split_ands
      go_wp2_with fail
      go_ret
      exact ⟨ret_str Hn.out.symm, by assumption⟩
  by_cases h3 : k = 3
  · subst h3
    have Hn := Lib.hid (show termT 3 v a b x y = (cat [114, 101, 116] [59]) from rfl)
    have s1 := cat_run (P := Tryd.prog) [114, 101, 116] [59] (by have := L1.out; have := HL.out; first | (simp; done) | (simp; omega) | (simp [cat_len]; omega))
    have BE := Lib.hid ((Bk.new' w 40 [.int .i64 3, .string ⟨v.toArray⟩, .int .i64 a, .int .i64 b, .string ⟨x.toArray⟩, .string ⟨y.toArray⟩] (g := w.heap.size) (by simp)).alloc (.cells #[.string ⟨#[]⟩, .string ⟨#[103, 111, 116, 111, 32]⟩, .string ⟨#[105, 102, 32]⟩, .string ⟨#[114, 101, 116]⟩] 66))
    have BA := Lib.hid (Bk.new' (w.alloc (.cells #[.int .i64 3, .string ⟨v.toArray⟩, .int .i64 a, .int .i64 b, .string ⟨x.toArray⟩, .string ⟨y.toArray⟩] 40)) 66 [.string ⟨#[]⟩, .string ⟨#[103, 111, 116, 111, 32]⟩, .string ⟨#[105, 102, 32]⟩, .string ⟨#[114, 101, 116]⟩] (g := w.heap.size + 1) (by simp))
    have HB := Lib.hid (((Below.refl w.heap.size w).alloc (Nat.le_refl _) (.cells #[.int .i64 3, .string ⟨v.toArray⟩, .int .i64 a, .int .i64 b, .string ⟨x.toArray⟩, .string ⟨y.toArray⟩] 40)).alloc (by simp) (.cells #[.string ⟨#[]⟩, .string ⟨#[103, 111, 116, 111, 32]⟩, .string ⟨#[105, 102, 32]⟩, .string ⟨#[114, 101, 116]⟩] 66))
    go_enter Tryd.func23, Tryd.ntmps23
    go_wp2_with fail
    go_ret
    exact ⟨ret_str Hn.out.symm, HB.out⟩
  have Hn := Lib.hid (show termT k v a b x y = [] by unfold termT; rw [if_neg h1, if_neg h2, if_neg h3])
  have e1 : (k == 1) = false := by simpa using h1
  have e2 : (k == 2) = false := by simpa using h2
  have e3 : (k == 3) = false := by simpa using h3
  have BE := Lib.hid ((Bk.new' w 40 [.int .i64 k, .string ⟨v.toArray⟩, .int .i64 a, .int .i64 b, .string ⟨x.toArray⟩, .string ⟨y.toArray⟩] (g := w.heap.size) (by simp)).alloc (.cells #[.string ⟨#[]⟩, .string ⟨#[103, 111, 116, 111, 32]⟩, .string ⟨#[105, 102, 32]⟩, .string ⟨#[114, 101, 116]⟩] 66))
  have BA := Lib.hid (Bk.new' (w.alloc (.cells #[.int .i64 k, .string ⟨v.toArray⟩, .int .i64 a, .int .i64 b, .string ⟨x.toArray⟩, .string ⟨y.toArray⟩] 40)) 66 [.string ⟨#[]⟩, .string ⟨#[103, 111, 116, 111, 32]⟩, .string ⟨#[105, 102, 32]⟩, .string ⟨#[114, 101, 116]⟩] (g := w.heap.size + 1) (by simp))
  have HB := Lib.hid (((Below.refl w.heap.size w).alloc (Nat.le_refl _) (.cells #[.int .i64 k, .string ⟨v.toArray⟩, .int .i64 a, .int .i64 b, .string ⟨x.toArray⟩, .string ⟨y.toArray⟩] 40)).alloc (by simp) (.cells #[.string ⟨#[]⟩, .string ⟨#[103, 111, 116, 111, 32]⟩, .string ⟨#[105, 102, 32]⟩, .string ⟨#[114, 101, 116]⟩] 66))
  go_enter Tryd.func23, Tryd.ntmps23
  go_wp2_with fail
  go_ret
  exact ⟨ret_str Hn.out.symm, HB.out⟩

end Go.Proofs.YtdifegcpfpdngaaDoor
