/-
  Atoms, expressions, statements, ends that came in by value: their cells; how long their names are.
-/
import Derived.Test.YtdifegcpfpdngaaDoorPrintLaw
import Derived.SizedLaws
import Derived.OpenShut
import Derived.ShutString
import Derived.Lib.SmallJoins
namespace Go.Proofs.YtdifegcpfpdngaaDoor
open Go.RowKit Go.ChangeShapes Go.WideShapes

section
variable {H : Type} {enc : TypeId × Value → H} {w : World} {base : Nat} {spare : Nat → Bool} {held : Bool} {fuel : Nat} {cs : List Value} {x : DataW H × List MemPlace}
theorem list1 {α : Type _} {l : List α} (h : l.length = 1) : ∃ a, l = [a] := by
  match l, h with
  | [a], _ => exact ⟨a, rfl⟩
theorem list2 {α : Type _} {l : List α} (h : l.length = 2) : ∃ a b, l = [a, b] := by
  match l, h with
  | [a, b], _ => exact ⟨a, b, rfl⟩
theorem list3 {α : Type _} {l : List α} (h : l.length = 3) : ∃ a b c, l = [a, b, c] := by
  match l, h with
  | [a, b, c], _ => exact ⟨a, b, c, rfl⟩
theorem list4 {α : Type _} {l : List α} (h : l.length = 4) : ∃ a b c d, l = [a, b, c, d] := by
  match l, h with
  | [a, b, c, d], _ => exact ⟨a, b, c, d, rfl⟩
theorem trod_str (h : DataW.trod enc Tryd.prog w base spare held fuel 9 cs = some x) : ∃ s : List UInt8, cs = [.string ⟨s.toArray⟩] ∧ x = (.lit (.string s), []) := by
  obtain ⟨s, h1, h2, _⟩ := DataW.trod_string Tryd.underlying9 h
  exact ⟨s.data.toList, by simpa using h1, h2⟩
theorem trod_i (h : DataW.trod enc Tryd.prog w base spare held fuel 3 cs = some x) : ∃ n, cs = [.int .i64 n] ∧ x = (.lit (.int .i64 n), []) := by
  obtain ⟨n, h1, h2, _⟩ := DataW.trod_int Tryd.underlying3 h
  exact ⟨n, h1, h2⟩
theorem split_cells {a b : Nat} {cs p q : List Value} (h1 : (cs.drop 0).take a = p) (h2 : (cs.drop a).take b = q) (h : cs.length = a + b) : cs = p ++ q := by
  subst h1 h2
  rw [List.drop_zero, List.take_of_length_le (l := cs.drop a) (by simp; omega), List.take_append_drop]
theorem split_cells3 {a b c : Nat} {cs p q r : List Value} (h1 : (cs.drop 0).take a = p) (h2 : (cs.drop a).take b = q) (h3 : (cs.drop (a + b)).take c = r) (h : cs.length = a + b + c) : cs = p ++ (q ++ r) := by
  subst h1 h2 h3
  rw [List.drop_zero, List.take_of_length_le (l := cs.drop (a + b)) (by simp; omega), show cs.drop (a + b) = (cs.drop a).drop b from by rw [List.drop_drop], List.take_append_drop, List.take_append_drop]
theorem split_cells4 {a b c d : Nat} {cs p q r s : List Value} (h1 : (cs.drop 0).take a = p) (h2 : (cs.drop a).take b = q) (h3 : (cs.drop (a + b)).take c = r) (h4 : (cs.drop (a + b + c)).take d = s) (h : cs.length = a + b + c + d) : cs = p ++ (q ++ (r ++ s)) := by
  subst h1 h2 h3 h4
  rw [List.drop_zero, List.take_of_length_le (l := cs.drop (a + b + c)) (by simp; omega), show cs.drop (a + b + c) = (cs.drop (a + b)).drop c from by rw [List.drop_drop], List.take_append_drop,
    show cs.drop (a + b) = (cs.drop a).drop b from by rw [List.drop_drop], List.take_append_drop, List.take_append_drop]

theorem trod_num (h : DataW.trod enc Tryd.prog w base spare held fuel 23 cs = some x) : ∃ a b, cs = [.int .i64 a, .int .i64 b] ∧ x = (.agg [.lit (.int .i64 a), .lit (.int .i64 b)], []) := by
  obtain ⟨xs, n, _, rfl, hl, hx, hf⟩ := DataW.trod_struct Tryd.underlying23 h
  obtain ⟨y0, y1, rfl⟩ := list2 hx
  obtain ⟨a, e0, f0⟩ := trod_i (hf 0 _ rfl)
  obtain ⟨b, e1, f1⟩ := trod_i (hf 1 _ rfl)
  subst f0 f1
  exact ⟨a, b, split_cells (a := 1) (b := 1) e0 e1 hl, rfl⟩
theorem trod_atom (h : DataW.trod enc Tryd.prog w base spare held fuel 34 cs = some x) : ∃ (s : List UInt8) (a b : Int), cs = [.string ⟨s.toArray⟩, .int .i64 a, .int .i64 b] ∧ x = (.agg [.lit (.string s), .agg [.lit (.int .i64 a), .lit (.int .i64 b)]], []) := by
  obtain ⟨xs, n, _, rfl, hl, hx, hf⟩ := DataW.trod_struct Tryd.underlying34 h
  obtain ⟨y0, y1, rfl⟩ := list2 hx
  obtain ⟨s, e0, f0⟩ := trod_str (hf 0 _ rfl)
  obtain ⟨a, b, e1, f1⟩ := trod_num (hf 1 _ rfl)
  subst f0 f1
  exact ⟨s, a, b, split_cells (a := 1) (b := 2) e0 e1 hl, rfl⟩
theorem trod_expr (h : DataW.trod enc Tryd.prog w base spare held fuel 36 cs = some x) : ∃ (o : Int) (s : List UInt8) (a b : Int) (u : List UInt8) (c d : Int),
    cs = [.int .i64 o, .string ⟨s.toArray⟩, .int .i64 a, .int .i64 b, .string ⟨u.toArray⟩, .int .i64 c, .int .i64 d] ∧ x = (.agg [.lit (.int .i64 o), .agg [.lit (.string s), .agg [.lit (.int .i64 a), .lit (.int .i64 b)]], .agg [.lit (.string u), .agg [.lit (.int .i64 c), .lit (.int .i64 d)]]], []) := by
  obtain ⟨xs, n, _, rfl, hl, hx, hf⟩ := DataW.trod_struct Tryd.underlying36 h
  obtain ⟨y0, y1, y2, rfl⟩ := list3 hx
  obtain ⟨o, e0, f0⟩ := trod_i (hf 0 _ rfl)
  obtain ⟨s, a, b, e1, f1⟩ := trod_atom (hf 1 _ rfl)
  obtain ⟨u, c, d, e2, f2⟩ := trod_atom (hf 2 _ rfl)
  subst f0 f1 f2
  exact ⟨o, s, a, b, u, c, d, split_cells3 (a := 1) (b := 3) (c := 3) e0 e1 e2 hl, rfl⟩
theorem trod_stmt (h : DataW.trod enc Tryd.prog w base spare held fuel 38 cs = some x) : ∃ (k : Int) (y : List UInt8) (o : Int) (s : List UInt8) (a b : Int) (u : List UInt8) (c d : Int),
    cs = [.int .i64 k, .string ⟨y.toArray⟩, .int .i64 o, .string ⟨s.toArray⟩, .int .i64 a, .int .i64 b, .string ⟨u.toArray⟩, .int .i64 c, .int .i64 d] ∧
    x = (.agg [.lit (.int .i64 k), .lit (.string y), .agg [.lit (.int .i64 o), .agg [.lit (.string s), .agg [.lit (.int .i64 a), .lit (.int .i64 b)]], .agg [.lit (.string u), .agg [.lit (.int .i64 c), .lit (.int .i64 d)]]]], []) := by
  obtain ⟨xs, n, _, rfl, hl, hx, hf⟩ := DataW.trod_struct Tryd.underlying38 h
  obtain ⟨y0, y1, y2, rfl⟩ := list3 hx
  obtain ⟨k, e0, f0⟩ := trod_i (hf 0 _ rfl)
  obtain ⟨y, e1, f1⟩ := trod_str (hf 1 _ rfl)
  obtain ⟨o, s, a, b, u, c, d, e2, f2⟩ := trod_expr (hf 2 _ rfl)
  subst f0 f1 f2
  exact ⟨k, y, o, s, a, b, u, c, d, split_cells3 (a := 1) (b := 1) (c := 7) e0 e1 e2 hl, rfl⟩
theorem trod_term (h : DataW.trod enc Tryd.prog w base spare held fuel 40 cs = some x) : ∃ (k : Int) (s : List UInt8) (a b : Int) (y z : List UInt8),
    cs = [.int .i64 k, .string ⟨s.toArray⟩, .int .i64 a, .int .i64 b, .string ⟨y.toArray⟩, .string ⟨z.toArray⟩] ∧
    x = (.agg [.lit (.int .i64 k), .agg [.lit (.string s), .agg [.lit (.int .i64 a), .lit (.int .i64 b)]], .lit (.string y), .lit (.string z)], []) := by
  obtain ⟨xs, n, _, rfl, hl, hx, hf⟩ := DataW.trod_struct Tryd.underlying40 h
  obtain ⟨y0, y1, y2, y3, rfl⟩ := list4 hx
  obtain ⟨k, e0, f0⟩ := trod_i (hf 0 _ rfl)
  obtain ⟨s, a, b, e1, f1⟩ := trod_atom (hf 1 _ rfl)
  obtain ⟨y, e2, f2⟩ := trod_str (hf 2 _ rfl)
  obtain ⟨z, e3, f3⟩ := trod_str (hf 3 _ rfl)
  subst f0 f1 f2 f3
  exact ⟨k, s, a, b, y, z, split_cells4 (a := 1) (b := 3) (c := 1) (d := 1) e0 e1 e2 e3 hl, rfl⟩
end

section
variable {H : Type} {enc : TypeId × Value → H} {W : World} {r : Reach} {b0 base : Nat} {spare : Nat → Bool} {held : Bool} {v : Value} {d : DataW H} {p : List MemPlace}
theorem agg_cells {cs : Array Value} {l : List Value} (h : (Value.agg cs).cells.toList = l) : Value.agg cs = .agg l.toArray := by
  subst h
  simp [Value.cells]
theorem atom_in (hv : Value.okWide Tryd.prog W r b0 34 v) (h : DataW.Trod enc Tryd.prog W base spare held 34 v d p) :
    ∃ (s : List UInt8) (a b : Int), v = .agg #[.string ⟨s.toArray⟩, .int .i64 a, .int .i64 b] ∧ d = .agg [.lit (.string s), .agg [.lit (.int .i64 a), .lit (.int .i64 b)]] := by
  obtain ⟨cs, rfl, _⟩ := okWide_struct Tryd.underlying34 hv
  obtain ⟨fuel, hf⟩ := h
  obtain ⟨s, a, b, h1, h2⟩ := trod_atom hf
  exact ⟨s, a, b, agg_cells h1, (congrArg Prod.fst h2)⟩
theorem expr_in (hv : Value.okWide Tryd.prog W r b0 36 v) (h : DataW.Trod enc Tryd.prog W base spare held 36 v d p) :
    ∃ (o : Int) (s : List UInt8) (a b : Int) (u : List UInt8) (c e : Int), v = .agg #[.int .i64 o, .string ⟨s.toArray⟩, .int .i64 a, .int .i64 b, .string ⟨u.toArray⟩, .int .i64 c, .int .i64 e] ∧
      d = .agg [.lit (.int .i64 o), .agg [.lit (.string s), .agg [.lit (.int .i64 a), .lit (.int .i64 b)]], .agg [.lit (.string u), .agg [.lit (.int .i64 c), .lit (.int .i64 e)]]] := by
  obtain ⟨cs, rfl, _⟩ := okWide_struct Tryd.underlying36 hv
  obtain ⟨fuel, hf⟩ := h
  obtain ⟨o, s, a, b, u, c, e, h1, h2⟩ := trod_expr hf
  exact ⟨o, s, a, b, u, c, e, agg_cells h1, (congrArg Prod.fst h2)⟩
theorem stmt_in (hv : Value.okWide Tryd.prog W r b0 38 v) (h : DataW.Trod enc Tryd.prog W base spare held 38 v d p) :
    ∃ (k : Int) (y : List UInt8) (o : Int) (s : List UInt8) (a b : Int) (u : List UInt8) (c e : Int), v = .agg #[.int .i64 k, .string ⟨y.toArray⟩, .int .i64 o, .string ⟨s.toArray⟩, .int .i64 a, .int .i64 b, .string ⟨u.toArray⟩, .int .i64 c, .int .i64 e] ∧
      d = .agg [.lit (.int .i64 k), .lit (.string y), .agg [.lit (.int .i64 o), .agg [.lit (.string s), .agg [.lit (.int .i64 a), .lit (.int .i64 b)]], .agg [.lit (.string u), .agg [.lit (.int .i64 c), .lit (.int .i64 e)]]]] := by
  obtain ⟨cs, rfl, _⟩ := okWide_struct Tryd.underlying38 hv
  obtain ⟨fuel, hf⟩ := h
  obtain ⟨k, y, o, s, a, b, u, c, e, h1, h2⟩ := trod_stmt hf
  exact ⟨k, y, o, s, a, b, u, c, e, agg_cells h1, (congrArg Prod.fst h2)⟩
theorem term_in (hv : Value.okWide Tryd.prog W r b0 40 v) (h : DataW.Trod enc Tryd.prog W base spare held 40 v d p) :
    ∃ (k : Int) (s : List UInt8) (a b : Int) (y z : List UInt8), v = .agg #[.int .i64 k, .string ⟨s.toArray⟩, .int .i64 a, .int .i64 b, .string ⟨y.toArray⟩, .string ⟨z.toArray⟩] ∧
      d = .agg [.lit (.int .i64 k), .agg [.lit (.string s), .agg [.lit (.int .i64 a), .lit (.int .i64 b)]], .lit (.string y), .lit (.string z)] := by
  obtain ⟨cs, rfl, _⟩ := okWide_struct Tryd.underlying40 hv
  obtain ⟨fuel, hf⟩ := h
  obtain ⟨k, s, a, b, y, z, h1, h2⟩ := trod_term hf
  exact ⟨k, s, a, b, y, z, agg_cells h1, (congrArg Prod.fst h2)⟩
end

theorem print_sized {H : Type} {ts : List TypeId} {gs : List (DataW H)} {s : List UInt8} {a0 b0 o1 : Int} {v1 : List UInt8} {a1 b1 : Int} {u1 : List UInt8} {c1 d1 k2 : Int} {x2 : List UInt8} {o2 : Int} {v2 : List UInt8} {a2 b2 : Int} {u2 : List UInt8} {c2 d2 k3 : Int} {v3 : List UInt8} {a3 b3 : Int} {x3 y3 : List UInt8}
    (h : (DataW.weightsEach Tryd.prog ([34, 36, 38, 40] ++ ts) ([.agg [.lit (.string s), .agg [.lit (.int .i64 a0), .lit (.int .i64 b0)]],
      .agg [.lit (.int .i64 o1), .agg [.lit (.string v1), .agg [.lit (.int .i64 a1), .lit (.int .i64 b1)]], .agg [.lit (.string u1), .agg [.lit (.int .i64 c1), .lit (.int .i64 d1)]]],
      .agg [.lit (.int .i64 k2), .lit (.string x2), .agg [.lit (.int .i64 o2), .agg [.lit (.string v2), .agg [.lit (.int .i64 a2), .lit (.int .i64 b2)]], .agg [.lit (.string u2), .agg [.lit (.int .i64 c2), .lit (.int .i64 d2)]]]],
      .agg [.lit (.int .i64 k3), .agg [.lit (.string v3), .agg [.lit (.int .i64 a3), .lit (.int .i64 b3)]], .lit (.string x3), .lit (.string y3)]] ++ gs : List (DataW H))).all (· ≤ reachBytes) = true) :
    s.length ≤ 140737488355328 ∧ v1.length ≤ 140737488355328 ∧ u1.length ≤ 140737488355328 ∧ x2.length ≤ 140737488355328 ∧ v2.length ≤ 140737488355328 ∧ u2.length ≤ 140737488355328 ∧ v3.length ≤ 140737488355328 ∧ x3.length ≤ 140737488355328 ∧ y3.length ≤ 140737488355328 := by
  have hr := reachBytes_lt
  generalize reachBytes = R at *
  simp only [List.cons_append, DataW.weightsEach, DataW.weights, Tryd.underlying34, Tryd.underlying36, Tryd.underlying38, Tryd.underlying40, Tryd.underlying23, List.map, List.append_nil, List.nil_append, List.all_cons, Bool.and_eq_true, decide_eq_true_eq] at h
  omega

end Go.Proofs.YtdifegcpfpdngaaDoor
