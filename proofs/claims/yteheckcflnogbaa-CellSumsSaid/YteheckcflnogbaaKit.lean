/-
  Small lemmas that many contracts of this seat use.
-/
import Derived.Test.YteheckcflnogbaaRows
import Derived.WalkKit
import Derived.Lib.Hide
import Derived.BigQuiet
import Derived.Deep.QuietTactic
namespace Go.Proofs.Yteheckcflnogbaa
open Go.RowKit

theorem ret_int {k : IntKind} {a b : Int} (h : a = b) : Ending.returned (.int k a) = .returned (.int k b) := by rw [h]
theorem ret_bool {a b : Bool} (h : a = b) : Ending.returned (.bool a) = .returned (.bool b) := by rw [h]

theorem ret_str {l m : List UInt8} (h : l = m) : Ending.returned (.string ⟨l.toArray⟩) = .returned (.string ⟨m.toArray⟩) := by rw [h]

/-- One text behind another one, closed to the walk. -/
def cat (x y : List UInt8) : List UInt8 := x ++ y
theorem cat_len (x y : List UInt8) : (cat x y).length = x.length + y.length := by simp [cat]
theorem cat_run {P : Program} (x y : List UInt8) (h : x.length + y.length ≤ 8388608) (w : World) :
    (Op.stringOp .add ⟨x.toArray⟩ ⟨y.toArray⟩).run P w = .ok (.string ⟨(cat x y).toArray⟩) w :=
  run_string_add_lists w x y (by omega) (by omega)

/-- A cell that there is lies below the heap's size. -/
theorem cell_lt {w : World} {a : Addr} {v : Value} (h : w.cell? a = some v) : a.block < w.heap.size := by
  by_cases hc : a.block < w.heap.size
  · exact hc
  · rw [World.cell?, Array.getElem?_eq_none (by omega)] at h
    simp at h

theorem bel_drewN {B : Nat} {a w : World} (h : Below B a w) (n : Nat) : Below B a (w.drewN n) := ⟨h.os, h.tape, h.output, h.size, h.block⟩
/-- One call behind another one. -/
theorem bel_then {w w1 w2 : World} (h : Below w.heap.size w w1) (k : Below w1.heap.size w1 w2) : Below w.heap.size w w2 := h.trans (k.mono h.size)

/-- What a cell held it holds behind a call that writes nothing that was there. -/
theorem keepc {w w1 : World} {a : Addr} {v : Value} (h : w.cell? a = some v) (k : Below w.heap.size w w1) : w1.cell? a = some v := (k.cell (cell_lt h)).trans h
theorem keepf {w w1 : World} {a : Addr} {v : Value} {b : Bool} (h : w.cell? a = some v) (hf : w.frozen? a = b) (k : Below w.heap.size w w1) : w1.frozen? a = b := (k.frozen (cell_lt h)).trans hf

/-- A store, and what is read behind it. -/
theorem set_same {W : World} {p : Addr} {u v : Value} (h : W.cell? p = some u) : (W.setCell p v).cell? p = some v :=
  World.cell?_setCell_same' _ _ _ (by rw [h]; rfl)
theorem set_other {W : World} {p q : Addr} {u v : Value} (h : W.cell? q = some u) (hn : p.block ≠ q.block ∨ p.off ≠ q.off) : (W.setCell p v).cell? q = some u := by
  have hne : p ≠ q := by rintro rfl; rcases hn with h | h <;> exact h rfl
  rw [World.cell?_setCell_other]
  · exact h
  · exact hne

/-- A block of two cells, which may be written. -/
def P2 (W : World) (B : Nat) (u v : Value) : Prop :=
  W.cell? ⟨B, 0, none⟩ = some u ∧ W.cell? ⟨B, 1, none⟩ = some v ∧ W.frozen? ⟨B, 0, none⟩ = false ∧ W.frozen? ⟨B, 1, none⟩ = false
theorem P2.keep {W W1 : World} {B : Nat} {u v : Value} (h : P2 W B u v) (k : Below W.heap.size W W1) : P2 W1 B u v :=
  ⟨keepc h.1 k, keepc h.2.1 k, keepf h.1 h.2.2.1 k, keepf h.2.1 h.2.2.2 k⟩
theorem P2.new (w : World) (u v : Value) (t : TypeId) : P2 (w.alloc (.cells #[u, v] t)) w.heap.size u v := ⟨by go_simp, by go_simp, by go_simp, by go_simp⟩
theorem P2.alloc {W : World} {B : Nat} {u v : Value} (h : P2 W B u v) (o : Obj) : P2 (W.alloc o) B u v := h.keep ((Below.refl _ _).alloc (Nat.le_refl _) _)
theorem P2.set {W : World} {B : Nat} {u v : Value} (h : P2 W B u v) (x y : Value) : P2 ((W.setCell ⟨B, 0, none⟩ x).setCell ⟨B, 1, none⟩ y) B x y :=
  ⟨set_other (set_same h.1) (by simp), set_same (set_other h.2.1 (by simp)), by simpa only [World.frozen?_setCell] using h.2.2.1, by simpa only [World.frozen?_setCell] using h.2.2.2⟩
theorem P2.other {W : World} {B C : Nat} {u v : Value} (h : P2 W B u v) (hn : C ≠ B) (x y : Value) : P2 ((W.setCell ⟨C, 0, none⟩ x).setCell ⟨C, 1, none⟩ y) B u v :=
  ⟨set_other (set_other h.1 (.inl hn)) (.inl hn), set_other (set_other h.2.1 (.inl hn)) (.inl hn), by simpa only [World.frozen?_setCell] using h.2.2.1, by simpa only [World.frozen?_setCell] using h.2.2.2⟩
/-- Two stores into a block that is the call's own. -/
theorem bel_set2 {w W : World} (h : Below w.heap.size w W) {B : Nat} (hB : w.heap.size ≤ B) (x y : Value) : Below w.heap.size w ((W.setCell ⟨B, 0, none⟩ x).setCell ⟨B, 1, none⟩ y) :=
  (h.setCell (p := ⟨B, 0, none⟩) hB _).setCell (p := ⟨B, 1, none⟩) hB _

/-- A block of two ints. -/
def Pr (W : World) (B : Nat) (x y : Int) : Prop := W.cell? ⟨B, 0, none⟩ = some (.int .i64 x) ∧ W.cell? ⟨B, 1, none⟩ = some (.int .i64 y)
theorem Pr.keep {W W1 : World} {B : Nat} {x y : Int} (h : Pr W B x y) (k : Below W.heap.size W W1) : Pr W1 B x y := ⟨keepc h.1 k, keepc h.2 k⟩
theorem Pr.new (w : World) (x y : Int) (t : TypeId) : Pr (w.alloc (.cells #[.int .i64 x, .int .i64 y] t)) w.heap.size x y := ⟨(P2.new _ _ _ _).1, (P2.new _ _ _ _).2.1⟩
/-- The pairs that a call has made, and that nothing else has turned. -/
def GS (w W : World) (L : List (Nat × Int × Int)) : Prop := (∀ p ∈ L, Pr W p.1 p.2.1 p.2.2) ∧ Below w.heap.size w W
theorem GS.start (w : World) : GS w w [] := ⟨by simp, Below.refl _ _⟩
theorem GS.keep {w W W1 : World} {L : List (Nat × Int × Int)} (h : GS w W L) (k : Below W.heap.size W W1) : GS w W1 L := ⟨fun p hp => (h.1 p hp).keep k, bel_then h.2 k⟩
theorem GS.alloc {w W : World} {L : List (Nat × Int × Int)} (h : GS w W L) (o : Obj) : GS w (W.alloc o) L := h.keep ((Below.refl _ _).alloc (Nat.le_refl _) _)
theorem GS.add {w W : World} {L : List (Nat × Int × Int)} (h : GS w W L) (x y : Int) (t : TypeId) : GS w (W.alloc (.cells #[.int .i64 x, .int .i64 y] t)) ((W.heap.size, x, y) :: L) := by
  refine ⟨fun p hp => ?_, (h.alloc _).2⟩
  rcases List.mem_cons.1 hp with rfl | hp
  · exact Pr.new _ _ _ _
  · exact (h.alloc _).1 p hp
theorem GS.at {w W : World} {L : List (Nat × Int × Int)} (h : GS w W L) (B : Nat) (x y : Int) (hp : (B, x, y) ∈ L) : Pr W B x y := h.1 _ hp

end Go.Proofs.Yteheckcflnogbaa
