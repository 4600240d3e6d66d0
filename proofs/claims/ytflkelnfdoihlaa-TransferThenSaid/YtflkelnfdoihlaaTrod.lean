/-
  Structs of ints that came in by value or in a slice: their cells.
-/
import Derived.Test.YtflkelnfdoihlaaKit
import Derived.OpenShut
import Derived.Deep.Slices
import Derived.SizedLaws
namespace Go.Proofs.Ytflkelnfdoihlaa
open Go.RowKit Go.ChangeShapes Go.WideShapes

section
variable {H : Type} {enc : TypeId × Value → H} {w : World} {base : Nat} {spare : Nat → Bool} {held : Bool} {fuel : Nat} {cs : List Value} {x : DataW H × List MemPlace}
theorem list1 {α : Type _} {l : List α} (h : l.length = 1) : ∃ a, l = [a] := by
  match l, h with
  | [a], _ => exact ⟨a, rfl⟩
theorem list2 {α : Type _} {l : List α} (h : l.length = 2) : ∃ a b, l = [a, b] := by
  match l, h with
  | [a, b], _ => exact ⟨a, b, rfl⟩
theorem list3 {α : Type _} {l : List α} (h : l.length = 3) : ∃ a b c, l = [a, b, c] := by
  match l, h with
  | [a, b, c], _ => exact ⟨a, b, c, rfl⟩
theorem list4 {α : Type _} {l : List α} (h : l.length = 4) : ∃ a b c d, l = [a, b, c, d] := by
  match l, h with
  | [a, b, c, d], _ => exact ⟨a, b, c, d, rfl⟩
theorem trod_i (h : DataW.trod enc Try.prog w base spare held fuel 3 cs = some x) : ∃ n, cs = [.int .i64 n] ∧ x = (.lit (.int .i64 n), []) := by
  obtain ⟨n, h1, h2, _⟩ := DataW.trod_int Try.underlying3 h
  exact ⟨n, h1, h2⟩
theorem split_cells {a b : Nat} {cs p q : List Value} (h1 : (cs.drop 0).take a = p) (h2 : (cs.drop a).take b = q) (h : cs.length = a + b) : cs = p ++ q := by
  subst h1 h2
  rw [List.drop_zero, List.take_of_length_le (l := cs.drop a) (by simp; omega), List.take_append_drop]
theorem split_cells3 {a b c : Nat} {cs p q r : List Value} (h1 : (cs.drop 0).take a = p) (h2 : (cs.drop a).take b = q) (h3 : (cs.drop (a + b)).take c = r) (h : cs.length = a + b + c) : cs = p ++ (q ++ r) := by
  subst h1 h2 h3
  rw [List.drop_zero, List.take_of_length_le (l := cs.drop (a + b)) (by simp; omega), show cs.drop (a + b) = (cs.drop a).drop b from by rw [List.drop_drop], List.take_append_drop, List.take_append_drop]
theorem split_cells4 {a b c d : Nat} {cs p q r s : List Value} (h1 : (cs.drop 0).take a = p) (h2 : (cs.drop a).take b = q) (h3 : (cs.drop (a + b)).take c = r) (h4 : (cs.drop (a + b + c)).take d = s) (h : cs.length = a + b + c + d) : cs = p ++ (q ++ (r ++ s)) := by
  subst h1 h2 h3 h4
  rw [List.drop_zero, List.take_of_length_le (l := cs.drop (a + b + c)) (by simp; omega), show cs.drop (a + b + c) = (cs.drop (a + b)).drop c from by rw [List.drop_drop], List.take_append_drop,
    show cs.drop (a + b) = (cs.drop a).drop b from by rw [List.drop_drop], List.take_append_drop, List.take_append_drop]

set_option maxRecDepth 100000 in
theorem trod_num (h : DataW.trod enc Try.prog w base spare held fuel 78 cs = some x) : ∃ a b, cs = [.int .i64 a, .int .i64 b] ∧ x = (.agg [.lit (.int .i64 a), .lit (.int .i64 b)], []) := by
  obtain ⟨xs, n, _, rfl, hl, hx, hf⟩ := DataW.trod_struct Try.underlying78 h
  obtain ⟨y0, y1, rfl⟩ := list2 hx
  obtain ⟨a, e0, f0⟩ := trod_i (hf 0 _ rfl)
  obtain ⟨b, e1, f1⟩ := trod_i (hf 1 _ rfl)
  subst f0 f1
  exact ⟨a, b, split_cells (a := 1) (b := 1) e0 e1 hl, rfl⟩
end
theorem agg_cells' {cs : Array Value} {l : List Value} (h : (Value.agg cs).cells.toList = l) : Value.agg cs = .agg l.toArray := by
  subst h
  simp [Value.cells]

end Go.Proofs.Ytflkelnfdoihlaa
