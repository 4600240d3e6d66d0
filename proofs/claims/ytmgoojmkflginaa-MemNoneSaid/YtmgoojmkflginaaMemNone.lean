/-
  soughlaw22.MemNone: memories that nobody made; the walk.
-/
import Derived.Test.YtmgoojmkflginaaMemPlain
import Derived.LoopN
namespace Go.Proofs.Ytmgoojmkflginaa
open Go.RowKit

theorem has_zero (a : Int) (w : World) :
    Calls Try.prog 52 #[.agg #[.int .i64 0], .int .i64 a] w fun e w' => e = .returned (.bool false) ∧ Below w.heap.size w w' :=
  (has_any' 0 a w).mono fun e w' h => ⟨by rw [h.1]; exact ret_bool (by simp), h.2⟩
theorem nload_any (a : Int) (w : World) : Calls Try.prog 33 #[.pointer none, .int .i64 a] w fun e w' => e = .returned (.int .u64 0) ∧ Below w.heap.size w w' := by
  go_enter Try.func33, Try.ntmps33
  go_wp2
  go_ret
  exact ⟨rfl, Below.refl _ _⟩
theorem nstore_any (a u : Int) (w : World) : Calls Try.prog 34 #[.pointer none, .int .i64 a, .int .u64 u] w fun e w' => e = .returned (.tuple #[]) ∧ Below w.heap.size w w' := by
  go_enter Try.func34, Try.ntmps34
  go_wp2
  go_end0
  exact ⟨rfl, Below.refl _ _⟩
theorem ncas_any (a o u : Int) (w : World) : Calls Try.prog 35 #[.pointer none, .int .i64 a, .int .u64 o, .int .u64 u] w fun e w' => e = .returned (.bool false) ∧ Below w.heap.size w w' := by
  go_enter Try.func35, Try.ntmps35
  go_wp2
  go_ret
  exact ⟨rfl, Below.refl _ _⟩
theorem nadd_any (a d : Int) (w : World) : Calls Try.prog 36 #[.pointer none, .int .i64 a, .int .u64 d] w fun e w' => e = .returned (.int .u64 0) ∧ Below w.heap.size w w' := by
  go_enter Try.func36, Try.ntmps36
  go_wp2
  go_ret
  exact ⟨rfl, Below.refl _ _⟩
theorem nlen_any  (w : World) : Calls Try.prog 14 #[.pointer none] w fun e w' => e = .returned (.int .i64 0) ∧ Below w.heap.size w w' := by
  go_enter Try.func14, Try.ntmps14
  go_wp2
  go_ret
  exact ⟨rfl, Below.refl _ _⟩
set_option maxHeartbeats 800000 in
theorem nplain_any (k a x y : Int) (w : World) :
    Calls Try.prog 12 #[.pointer none, .agg #[.int .i64 k, .int .i64 a, .int .u64 x, .int .u64 y]] w fun e w' => e = .returned (.tuple #[.int .u64 0, .bool false]) ∧ Below w.heap.size w w' := by
  by_cases e1 : k = 1
  · have d1 : (k == 1) = true := by simp [e1]
    clear e1
    go_enter Try.func12, Try.ntmps12
    go_wp2_with fail
    refine (nload_any _ _).mono ?_
    rintro e w1 ⟨rfl, hB⟩
    have HB := Lib.hid hB
    clear hB
    go_wp2_with fail
    go_ret2
    exact ⟨rfl, bel_then ((Below.refl _ _).alloc (Nat.le_refl _) _) HB.out⟩
  have d1 : (k == 1) = false := by simp [e1]
  by_cases e2 : k = 2
  · have d2 : (k == 2) = true := by simp [e2]
    clear e1 e2
    go_enter Try.func12, Try.ntmps12
    go_wp2_with fail
    refine (nstore_any _ _ _).mono ?_
    rintro e w1 ⟨rfl, hB⟩
    have HB := Lib.hid hB
    clear hB
    go_wp2_with fail
    go_ret2
    exact ⟨rfl, bel_then ((Below.refl _ _).alloc (Nat.le_refl _) _) HB.out⟩
  have d2 : (k == 2) = false := by simp [e2]
  by_cases e3 : k = 3
  · have d3 : (k == 3) = true := by simp [e3]
    clear e1 e2 e3
    go_enter Try.func12, Try.ntmps12
    go_wp2_with fail
    refine (ncas_any _ _ _ _).mono ?_
    rintro e w1 ⟨rfl, hB⟩
    have HB := Lib.hid hB
    clear hB
    go_wp2_with fail
    go_ret2
    exact ⟨rfl, bel_then ((Below.refl _ _).alloc (Nat.le_refl _) _) HB.out⟩
  have d3 : (k == 3) = false := by simp [e3]
  clear e1 e2 e3
  go_enter Try.func12, Try.ntmps12
  go_wp2_with fail
  refine (nadd_any _ _ _).mono ?_
  rintro e w1 ⟨rfl, hB⟩
  have HB := Lib.hid hB
  clear hB
  go_wp2_with fail
  go_ret2
  exact ⟨rfl, bel_then ((Below.refl _ _).alloc (Nat.le_refl _) _) HB.out⟩
theorem nsload_any (a : Int) (w : World) : Calls Try.prog 38 #[.pointer none, .int .i64 a] w fun e w' => e = .returned (.int .u64 0) ∧ Below w.heap.size w w' := by
  go_enter Try.func38, Try.ntmps38
  go_wp2
  go_ret
  exact ⟨rfl, Below.refl _ _⟩
theorem nsstore_any (a u : Int) (w : World) : Calls Try.prog 39 #[.pointer none, .int .i64 a, .int .u64 u] w fun e w' => e = .returned (.tuple #[]) ∧ Below w.heap.size w w' := by
  go_enter Try.func39, Try.ntmps39
  go_wp2
  go_end0
  exact ⟨rfl, Below.refl _ _⟩
theorem nscas_any (a o u : Int) (w : World) : Calls Try.prog 30 #[.pointer none, .int .i64 a, .int .u64 o, .int .u64 u] w fun e w' => e = .returned (.bool false) ∧ Below w.heap.size w w' := by
  go_enter Try.func30, Try.ntmps30
  go_wp2
  go_ret
  exact ⟨rfl, Below.refl _ _⟩
theorem nsadd_any (a d : Int) (w : World) : Calls Try.prog 31 #[.pointer none, .int .i64 a, .int .u64 d] w fun e w' => e = .returned (.int .u64 0) ∧ Below w.heap.size w w' := by
  go_enter Try.func31, Try.ntmps31
  go_wp2
  go_ret
  exact ⟨rfl, Below.refl _ _⟩
theorem nslen_any  (w : World) : Calls Try.prog 19 #[.pointer none] w fun e w' => e = .returned (.int .i64 0) ∧ Below w.heap.size w w' := by
  go_enter Try.func19, Try.ntmps19
  go_wp2
  go_ret
  exact ⟨rfl, Below.refl _ _⟩
set_option maxHeartbeats 800000 in
theorem nsshared_any (k a x y : Int) (w : World) :
    Calls Try.prog 18 #[.pointer none, .agg #[.int .i64 k, .int .i64 a, .int .u64 x, .int .u64 y]] w fun e w' => e = .returned (.tuple #[.int .u64 0, .bool false]) ∧ Below w.heap.size w w' := by
  by_cases e1 : k = 1
  · have d1 : (k == 1) = true := by simp [e1]
    clear e1
    go_enter Try.func18, Try.ntmps18
    go_wp2_with fail
    refine (nsload_any _ _).mono ?_
    rintro e w1 ⟨rfl, hB⟩
    have HB := Lib.hid hB
    clear hB
    go_wp2_with fail
    go_ret2
    exact ⟨rfl, bel_then ((Below.refl _ _).alloc (Nat.le_refl _) _) HB.out⟩
  have d1 : (k == 1) = false := by simp [e1]
  by_cases e2 : k = 2
  · have d2 : (k == 2) = true := by simp [e2]
    clear e1 e2
    go_enter Try.func18, Try.ntmps18
    go_wp2_with fail
    refine (nsstore_any _ _ _).mono ?_
    rintro e w1 ⟨rfl, hB⟩
    have HB := Lib.hid hB
    clear hB
    go_wp2_with fail
    go_ret2
    exact ⟨rfl, bel_then ((Below.refl _ _).alloc (Nat.le_refl _) _) HB.out⟩
  have d2 : (k == 2) = false := by simp [e2]
  by_cases e3 : k = 3
  · have d3 : (k == 3) = true := by simp [e3]
    clear e1 e2 e3
    go_enter Try.func18, Try.ntmps18
    go_wp2_with fail
    refine (nscas_any _ _ _ _).mono ?_
    rintro e w1 ⟨rfl, hB⟩
    have HB := Lib.hid hB
    clear hB
    go_wp2_with fail
    go_ret2
    exact ⟨rfl, bel_then ((Below.refl _ _).alloc (Nat.le_refl _) _) HB.out⟩
  have d3 : (k == 3) = false := by simp [e3]
  clear e1 e2 e3
  go_enter Try.func18, Try.ntmps18
  go_wp2_with fail
  refine (nsadd_any _ _ _).mono ?_
  rintro e w1 ⟨rfl, hB⟩
  have HB := Lib.hid hB
  clear hB
  go_wp2_with fail
  go_ret2
  exact ⟨rfl, bel_then ((Below.refl _ _).alloc (Nat.le_refl _) _) HB.out⟩
theorem eload_any (a : Int) (w : World) (b : Nat) (h : Bk w b 48 [.int .i64 0, .slice none 0 0]) : Calls Try.prog 33 #[.pointer (some ⟨b, 0, none⟩), .int .i64 a] w fun e w' => e = .returned (.int .u64 0) ∧ Below w.heap.size w w' := by
  have h1 : w.cell? ⟨b, 0, none⟩ = some (.int .i64 0) := h.cell 0
  have h2 : w.cell? ⟨b, 1, none⟩ = some (.slice none 0 0) := h.cell 1
  clear h
  go_enter Try.func33, Try.ntmps33
  go_wp2_with fail
  refine (has_zero _ _).mono ?_
  rintro e w1 ⟨rfl, hB⟩
  go_wp2_with fail
  go_ret
  exact ⟨rfl, hB⟩
theorem estore_any (a u : Int) (w : World) (b : Nat) (h : Bk w b 48 [.int .i64 0, .slice none 0 0]) : Calls Try.prog 34 #[.pointer (some ⟨b, 0, none⟩), .int .i64 a, .int .u64 u] w fun e w' => e = .returned (.tuple #[]) ∧ Below w.heap.size w w' := by
  have h1 : w.cell? ⟨b, 0, none⟩ = some (.int .i64 0) := h.cell 0
  have h2 : w.cell? ⟨b, 1, none⟩ = some (.slice none 0 0) := h.cell 1
  clear h
  go_enter Try.func34, Try.ntmps34
  go_wp2_with fail
  refine (has_zero _ _).mono ?_
  rintro e w1 ⟨rfl, hB⟩
  go_wp2_with fail
  go_end0
  exact ⟨rfl, hB⟩
theorem ecas_any (a o u : Int) (w : World) (b : Nat) (h : Bk w b 48 [.int .i64 0, .slice none 0 0]) : Calls Try.prog 35 #[.pointer (some ⟨b, 0, none⟩), .int .i64 a, .int .u64 o, .int .u64 u] w fun e w' => e = .returned (.bool false) ∧ Below w.heap.size w w' := by
  have h1 : w.cell? ⟨b, 0, none⟩ = some (.int .i64 0) := h.cell 0
  have h2 : w.cell? ⟨b, 1, none⟩ = some (.slice none 0 0) := h.cell 1
  clear h
  go_enter Try.func35, Try.ntmps35
  go_wp2_with fail
  refine (has_zero _ _).mono ?_
  rintro e w1 ⟨rfl, hB⟩
  go_wp2_with fail
  go_ret
  exact ⟨rfl, hB⟩
theorem eadd_any (a d : Int) (w : World) (b : Nat) (h : Bk w b 48 [.int .i64 0, .slice none 0 0]) : Calls Try.prog 36 #[.pointer (some ⟨b, 0, none⟩), .int .i64 a, .int .u64 d] w fun e w' => e = .returned (.int .u64 0) ∧ Below w.heap.size w w' := by
  have h1 : w.cell? ⟨b, 0, none⟩ = some (.int .i64 0) := h.cell 0
  have h2 : w.cell? ⟨b, 1, none⟩ = some (.slice none 0 0) := h.cell 1
  clear h
  go_enter Try.func36, Try.ntmps36
  go_wp2_with fail
  refine (has_zero _ _).mono ?_
  rintro e w1 ⟨rfl, hB⟩
  go_wp2_with fail
  go_ret
  exact ⟨rfl, hB⟩
theorem elen_any  (w : World) (b : Nat) (h : Bk w b 48 [.int .i64 0, .slice none 0 0]) : Calls Try.prog 14 #[.pointer (some ⟨b, 0, none⟩)] w fun e w' => e = .returned (.int .i64 0) ∧ Below w.heap.size w w' := by
  have h1 : w.cell? ⟨b, 0, none⟩ = some (.int .i64 0) := h.cell 0
  have h2 : w.cell? ⟨b, 1, none⟩ = some (.slice none 0 0) := h.cell 1
  clear h
  go_enter Try.func14, Try.ntmps14
  go_wp2
  go_ret
  exact ⟨rfl, Below.refl _ _⟩
set_option maxHeartbeats 800000 in
theorem eplain_any (k a x y : Int) (w : World) (b : Nat) (h : Bk w b 48 [.int .i64 0, .slice none 0 0]) :
    Calls Try.prog 12 #[.pointer (some ⟨b, 0, none⟩), .agg #[.int .i64 k, .int .i64 a, .int .u64 x, .int .u64 y]] w fun e w' => e = .returned (.tuple #[.int .u64 0, .bool false]) ∧ Below w.heap.size w w' := by
  have H := Lib.hid (h.alloc (.cells #[.int .i64 k, .int .i64 a, .int .u64 x, .int .u64 y] 30))
  clear h
  by_cases e1 : k = 1
  · have d1 : (k == 1) = true := by simp [e1]
    clear e1
    go_enter Try.func12, Try.ntmps12
    go_wp2_with fail
    refine (eload_any _ _ _ H.out).mono ?_
    rintro e w1 ⟨rfl, hB⟩
    have HB := Lib.hid hB
    clear hB
    go_wp2_with fail
    go_ret2
    exact ⟨rfl, bel_then ((Below.refl _ _).alloc (Nat.le_refl _) _) HB.out⟩
  have d1 : (k == 1) = false := by simp [e1]
  by_cases e2 : k = 2
  · have d2 : (k == 2) = true := by simp [e2]
    clear e1 e2
    go_enter Try.func12, Try.ntmps12
    go_wp2_with fail
    refine (estore_any _ _ _ _ H.out).mono ?_
    rintro e w1 ⟨rfl, hB⟩
    have HB := Lib.hid hB
    clear hB
    go_wp2_with fail
    go_ret2
    exact ⟨rfl, bel_then ((Below.refl _ _).alloc (Nat.le_refl _) _) HB.out⟩
  have d2 : (k == 2) = false := by simp [e2]
  by_cases e3 : k = 3
  · have d3 : (k == 3) = true := by simp [e3]
    clear e1 e2 e3
    go_enter Try.func12, Try.ntmps12
    go_wp2_with fail
    refine (ecas_any _ _ _ _ _ H.out).mono ?_
    rintro e w1 ⟨rfl, hB⟩
    have HB := Lib.hid hB
    clear hB
    go_wp2_with fail
    go_ret2
    exact ⟨rfl, bel_then ((Below.refl _ _).alloc (Nat.le_refl _) _) HB.out⟩
  have d3 : (k == 3) = false := by simp [e3]
  clear e1 e2 e3
  go_enter Try.func12, Try.ntmps12
  go_wp2_with fail
  refine (eadd_any _ _ _ _ H.out).mono ?_
  rintro e w1 ⟨rfl, hB⟩
  have HB := Lib.hid hB
  clear hB
  go_wp2_with fail
  go_ret2
  exact ⟨rfl, bel_then ((Below.refl _ _).alloc (Nat.le_refl _) _) HB.out⟩
theorem esload_any (a : Int) (w : World) (b : Nat) (h : Bk w b 51 [.int .i64 0, .slice none 0 0]) : Calls Try.prog 38 #[.pointer (some ⟨b, 0, none⟩), .int .i64 a] w fun e w' => e = .returned (.int .u64 0) ∧ Below w.heap.size w w' := by
  have h1 : w.cell? ⟨b, 0, none⟩ = some (.int .i64 0) := h.cell 0
  have h2 : w.cell? ⟨b, 1, none⟩ = some (.slice none 0 0) := h.cell 1
  clear h
  go_enter Try.func38, Try.ntmps38
  go_wp2_with fail
  refine (has_zero _ _).mono ?_
  rintro e w1 ⟨rfl, hB⟩
  go_wp2_with fail
  go_ret
  exact ⟨rfl, hB⟩
theorem esstore_any (a u : Int) (w : World) (b : Nat) (h : Bk w b 51 [.int .i64 0, .slice none 0 0]) : Calls Try.prog 39 #[.pointer (some ⟨b, 0, none⟩), .int .i64 a, .int .u64 u] w fun e w' => e = .returned (.tuple #[]) ∧ Below w.heap.size w w' := by
  have h1 : w.cell? ⟨b, 0, none⟩ = some (.int .i64 0) := h.cell 0
  have h2 : w.cell? ⟨b, 1, none⟩ = some (.slice none 0 0) := h.cell 1
  clear h
  go_enter Try.func39, Try.ntmps39
  go_wp2_with fail
  refine (has_zero _ _).mono ?_
  rintro e w1 ⟨rfl, hB⟩
  go_wp2_with fail
  go_end0
  exact ⟨rfl, hB⟩
theorem escas_any (a o u : Int) (w : World) (b : Nat) (h : Bk w b 51 [.int .i64 0, .slice none 0 0]) : Calls Try.prog 30 #[.pointer (some ⟨b, 0, none⟩), .int .i64 a, .int .u64 o, .int .u64 u] w fun e w' => e = .returned (.bool false) ∧ Below w.heap.size w w' := by
  have h1 : w.cell? ⟨b, 0, none⟩ = some (.int .i64 0) := h.cell 0
  have h2 : w.cell? ⟨b, 1, none⟩ = some (.slice none 0 0) := h.cell 1
  clear h
  go_enter Try.func30, Try.ntmps30
  go_wp2_with fail
  refine (has_zero _ _).mono ?_
  rintro e w1 ⟨rfl, hB⟩
  go_wp2_with fail
  go_ret
  exact ⟨rfl, hB⟩
theorem esadd_any (a d : Int) (w : World) (b : Nat) (h : Bk w b 51 [.int .i64 0, .slice none 0 0]) : Calls Try.prog 31 #[.pointer (some ⟨b, 0, none⟩), .int .i64 a, .int .u64 d] w fun e w' => e = .returned (.int .u64 0) ∧ Below w.heap.size w w' := by
  have h1 : w.cell? ⟨b, 0, none⟩ = some (.int .i64 0) := h.cell 0
  have h2 : w.cell? ⟨b, 1, none⟩ = some (.slice none 0 0) := h.cell 1
  clear h
  go_enter Try.func31, Try.ntmps31
  go_wp2_with fail
  refine (has_zero _ _).mono ?_
  rintro e w1 ⟨rfl, hB⟩
  go_wp2_with fail
  go_ret
  exact ⟨rfl, hB⟩
theorem eslen_any  (w : World) (b : Nat) (h : Bk w b 51 [.int .i64 0, .slice none 0 0]) : Calls Try.prog 19 #[.pointer (some ⟨b, 0, none⟩)] w fun e w' => e = .returned (.int .i64 0) ∧ Below w.heap.size w w' := by
  have h1 : w.cell? ⟨b, 0, none⟩ = some (.int .i64 0) := h.cell 0
  have h2 : w.cell? ⟨b, 1, none⟩ = some (.slice none 0 0) := h.cell 1
  clear h
  go_enter Try.func19, Try.ntmps19
  go_wp2
  go_ret
  exact ⟨rfl, Below.refl _ _⟩
set_option maxHeartbeats 800000 in
theorem esshared_any (k a x y : Int) (w : World) (b : Nat) (h : Bk w b 51 [.int .i64 0, .slice none 0 0]) :
    Calls Try.prog 18 #[.pointer (some ⟨b, 0, none⟩), .agg #[.int .i64 k, .int .i64 a, .int .u64 x, .int .u64 y]] w fun e w' => e = .returned (.tuple #[.int .u64 0, .bool false]) ∧ Below w.heap.size w w' := by
  have H := Lib.hid (h.alloc (.cells #[.int .i64 k, .int .i64 a, .int .u64 x, .int .u64 y] 30))
  clear h
  by_cases e1 : k = 1
  · have d1 : (k == 1) = true := by simp [e1]
    clear e1
    go_enter Try.func18, Try.ntmps18
    go_wp2_with fail
    refine (esload_any _ _ _ H.out).mono ?_
    rintro e w1 ⟨rfl, hB⟩
    have HB := Lib.hid hB
    clear hB
    go_wp2_with fail
    go_ret2
    exact ⟨rfl, bel_then ((Below.refl _ _).alloc (Nat.le_refl _) _) HB.out⟩
  have d1 : (k == 1) = false := by simp [e1]
  by_cases e2 : k = 2
  · have d2 : (k == 2) = true := by simp [e2]
    clear e1 e2
    go_enter Try.func18, Try.ntmps18
    go_wp2_with fail
    refine (esstore_any _ _ _ _ H.out).mono ?_
    rintro e w1 ⟨rfl, hB⟩
    have HB := Lib.hid hB
    clear hB
    go_wp2_with fail
    go_ret2
    exact ⟨rfl, bel_then ((Below.refl _ _).alloc (Nat.le_refl _) _) HB.out⟩
  have d2 : (k == 2) = false := by simp [e2]
  by_cases e3 : k = 3
  · have d3 : (k == 3) = true := by simp [e3]
    clear e1 e2 e3
    go_enter Try.func18, Try.ntmps18
    go_wp2_with fail
    refine (escas_any _ _ _ _ _ H.out).mono ?_
    rintro e w1 ⟨rfl, hB⟩
    have HB := Lib.hid hB
    clear hB
    go_wp2_with fail
    go_ret2
    exact ⟨rfl, bel_then ((Below.refl _ _).alloc (Nat.le_refl _) _) HB.out⟩
  have d3 : (k == 3) = false := by simp [e3]
  clear e1 e2 e3
  go_enter Try.func18, Try.ntmps18
  go_wp2_with fail
  refine (esadd_any _ _ _ _ H.out).mono ?_
  rintro e w1 ⟨rfl, hB⟩
  have HB := Lib.hid hB
  clear hB
  go_wp2_with fail
  go_ret2
  exact ⟨rfl, bel_then ((Below.refl _ _).alloc (Nat.le_refl _) _) HB.out⟩

theorem or_nil (w : World) :
    Calls Try.prog 20 #[.nilIface] w fun e w' => ∃ b g, e = .returned (.iface 24 (.pointer (some ⟨b, 0, none⟩))) ∧ Pm w' b g [] ∧ Below w.heap.size w w' := by
  go_enter Try.func20, Try.ntmps20
  go_wp2_with fail
  refine (newPlain_any _ _).mono ?_
  rintro e w1 ⟨b, g, rfl, hP, hB, _, _⟩
  rw [show List.replicate (memn 0) (0 : Int) = [] from rfl] at hP
  go_wp2_with fail
  go_ret
  exact ⟨b, g, rfl, hP, hB⟩

set_option maxHeartbeats 800000 in
theorem all_nil (w : World) :
    Calls Try.prog 16 #[.nilIface] w fun e w' => e = .returned (.slice none 0 0) ∧ Below w.heap.size w w' := by
  go_enter Try.func16, Try.ntmps16
  go_wp2_with fail
  refine (or_nil _).mono ?_
  rintro e w1 ⟨b, g, rfl, hP, hB⟩
  have hl := m_len ⟨b, 0, none⟩
  have HP := Lib.hid hP
  have HB := Lib.hid hB
  clear hP hB
  go_wp2_with fail
  refine (plen_any _ _ _ _ HP.out).mono ?_
  rintro e w2 ⟨rfl, rfl⟩
  rw [show (([] : List Int).length : Int) = 0 from rfl]
  go_wp2_with fail
  refine wp_loop_rounds 1 ?_
  rw [rounds_succ]
  go_wp2
  go_ret
  exact ⟨rfl, HB.out⟩

set_option maxHeartbeats 800000 in
theorem all_empty (b : Nat) (w : World) (h : Bk w b 48 [.int .i64 0, .slice none 0 0]) :
    Calls Try.prog 16 #[.iface 24 (.pointer (some ⟨b, 0, none⟩))] w fun e w' => e = .returned (.slice none 0 0) ∧ Below w.heap.size w w' := by
  have hl := m_len ⟨b, 0, none⟩
  have H := Lib.hid h
  clear h
  go_enter Try.func16, Try.ntmps16
  go_wp2_with fail
  refine (or_some _ _ _).mono ?_
  rintro e w1 ⟨rfl, rfl⟩
  go_wp2_with fail
  refine (elen_any _ _ H.out).mono ?_
  rintro e w2 ⟨rfl, hB⟩
  have HB := Lib.hid hB
  clear hB
  go_wp2_with fail
  refine wp_loop_rounds 1 ?_
  rw [rounds_succ]
  go_wp2
  go_ret
  exact ⟨rfl, HB.out⟩

set_option maxHeartbeats 3200000 in
set_option maxRecDepth 100000 in
theorem memNone_walk (k a x y : Int) (W : World) :
    Calls Try.prog 5 #[.agg #[.int .i64 k, .int .i64 a, .int .u64 x, .int .u64 y]] W fun e w' => e = .returned (.bool true) ∧ Below W.heap.size W w' := by
  go_enter Try.func5, Try.ntmps5
  go_wp2_with fail
  refine (awake22_any _).mono ?_
  rintro e w1 ⟨rfl, hB1⟩
  have h0 : Below W.heap.size W (W.alloc (.cells #[.int .i64 k, .int .i64 a, .int .u64 x, .int .u64 y] 30)) := (Below.refl _ _).alloc (Nat.le_refl _) _
  have HK := Lib.hid ((Bk.new W 30 [.int .i64 k, .int .i64 a, .int .u64 x, .int .u64 y]).below hB1)
  have HB1 := Lib.hid (bel_then h0 hB1)
  have q0 : w1.cell? ⟨W.heap.size, 0, none⟩ = some (.int .i64 k) := HK.out.cell 0
  have q1 : w1.cell? ⟨W.heap.size, 1, none⟩ = some (.int .i64 a) := HK.out.cell 1
  have q2 : w1.cell? ⟨W.heap.size, 2, none⟩ = some (.int .u64 x) := HK.out.cell 2
  have q3 : w1.cell? ⟨W.heap.size, 3, none⟩ = some (.int .u64 y) := HK.out.cell 3
  have f0 := HK.out.free 0
  clear h0 hB1
  go_wp2_with fail
  refine (kind_any _ _).mono ?_
  rintro e w2 ⟨rfl, rfl⟩
  go_wp2_with fail
  have HK2 := Lib.hid (HK.out.set 0 (.int .i64 (kindv k)))
  have HB2 := Lib.hid (HB1.out.setCell (p := ⟨W.heap.size, 0, none⟩) (Nat.le_refl _) (.int .i64 (kindv k)))
  clear q0 q1 q2 q3 f0
  refine (nplain_any _ _ _ _ _).mono ?_
  rintro e w3 ⟨rfl, hB⟩
  have HK3 := Lib.hid (HK2.out.below hB)
  have HB3 := Lib.hid (bel_then (HB2.out) hB)
  have q0 : w3.cell? ⟨W.heap.size, 0, none⟩ = some (.int .i64 (kindv k)) := HK3.out.cell 0
  have q1 : w3.cell? ⟨W.heap.size, 1, none⟩ = some (.int .i64 a) := HK3.out.cell 1
  have q2 : w3.cell? ⟨W.heap.size, 2, none⟩ = some (.int .u64 x) := HK3.out.cell 2
  have q3 : w3.cell? ⟨W.heap.size, 3, none⟩ = some (.int .u64 y) := HK3.out.cell 3
  have hlt3 : W.heap.size < w3.heap.size := HK3.out.lt
  clear hB
  go_wp2_with fail
  refine (nsshared_any _ _ _ _ _).mono ?_
  rintro e w4 ⟨rfl, hB⟩
  have HK4 := Lib.hid (HK3.out.below hB)
  have HB4 := Lib.hid (bel_then (HB3.out) hB)
  have q0 : w4.cell? ⟨W.heap.size, 0, none⟩ = some (.int .i64 (kindv k)) := HK4.out.cell 0
  have q1 : w4.cell? ⟨W.heap.size, 1, none⟩ = some (.int .i64 a) := HK4.out.cell 1
  have q2 : w4.cell? ⟨W.heap.size, 2, none⟩ = some (.int .u64 x) := HK4.out.cell 2
  have q3 : w4.cell? ⟨W.heap.size, 3, none⟩ = some (.int .u64 y) := HK4.out.cell 3
  have hlt4 : W.heap.size < w4.heap.size := HK4.out.lt
  clear hB
  go_wp2_with fail
  have HE := Lib.hid (Bk.new w4 48 [.int .i64 0, .slice none 0 0])
  have HK4' := Lib.hid (HK4.out.alloc (.cells #[.int .i64 0, .slice none 0 0] 48))
  have HB4' := Lib.hid (HB4.out.alloc HB4.out.size (.cells #[.int .i64 0, .slice none 0 0] 48))
  refine (eplain_any _ _ _ _ _ _ HE.out).mono ?_
  rintro e w5 ⟨rfl, hB⟩
  have HK5 := Lib.hid (HK4'.out.below hB)
  have HB5 := Lib.hid (bel_then (HB4'.out) hB)
  have q0 : w5.cell? ⟨W.heap.size, 0, none⟩ = some (.int .i64 (kindv k)) := HK5.out.cell 0
  have q1 : w5.cell? ⟨W.heap.size, 1, none⟩ = some (.int .i64 a) := HK5.out.cell 1
  have q2 : w5.cell? ⟨W.heap.size, 2, none⟩ = some (.int .u64 x) := HK5.out.cell 2
  have q3 : w5.cell? ⟨W.heap.size, 3, none⟩ = some (.int .u64 y) := HK5.out.cell 3
  have hlt5 : W.heap.size < w5.heap.size := HK5.out.lt
  clear hB
  go_wp2_with fail
  have HE5 := Lib.hid (Bk.new w5 51 [.int .i64 0, .slice none 0 0])
  have HB5' := Lib.hid (HB5.out.alloc HB5.out.size (.cells #[.int .i64 0, .slice none 0 0] 51))
  clear q0 q1 q2 q3
  refine (esshared_any _ _ _ _ _ _ HE5.out).mono ?_
  rintro e w6 ⟨rfl, hB⟩
  have HB6 := Lib.hid (bel_then HB5'.out hB)
  clear hB
  go_wp2_with fail
  refine (nlen_any _).mono ?_
  rintro e w7 ⟨rfl, hB⟩
  have HB7 := Lib.hid (bel_then HB6.out hB)
  clear hB
  go_wp2_with fail
  refine (nslen_any _).mono ?_
  rintro e w8 ⟨rfl, hB⟩
  have HB8 := Lib.hid (bel_then HB7.out hB)
  clear hB
  go_wp2_with fail
  refine (all_nil _).mono ?_
  rintro e w9 ⟨rfl, hB⟩
  have HB9 := Lib.hid (bel_then HB8.out hB)
  clear hB
  go_wp2_with fail
  refine (or_nil _).mono ?_
  rintro e w10 ⟨b, g, rfl, hP, hB⟩
  have hl := m_len ⟨b, 0, none⟩
  have HP := Lib.hid hP
  have HB10 := Lib.hid (bel_then HB9.out hB)
  clear hB hP
  go_wp2_with fail
  refine (plen_any _ _ _ _ HP.out).mono ?_
  rintro e w11 ⟨rfl, rfl⟩
  rw [show (([] : List Int).length : Int) = 0 from rfl]
  go_wp2_with fail
  refine (all_empty _ _ (Bk.new _ 48 [.int .i64 0, .slice none 0 0])).mono ?_
  rintro e w12 ⟨rfl, hB⟩
  have HB12 := Lib.hid (bel_then (HB10.out.alloc HB10.out.size _) hB)
  clear hB
  go_wp2_with fail
  go_ret
  exact ⟨rfl, HB12.out⟩

end Go.Proofs.Ytmgoojmkflginaa
