/-
  mem.Plain: its contracts.
-/
import Derived.Test.YteheckcflnogbaaBlk
import Derived.Test.YteheckcflnogbaaTake
namespace Go.Proofs.Yteheckcflnogbaa
open Go.RowKit

/-- The word at a place. -/
def wd (zs : List Int) (i : Nat) : Int := zs[i]?.getD 0

/-- A Plain at block b, its words in block g. -/
def Pm (w : World) (b g : Nat) (zs : List Int) : Prop :=
  Bk w b 198 [.int .i64 zs.length, .slice (some ⟨g, 0, none⟩) zs.length zs.length] ∧ Bk w g 29 (zs.map (Value.int .u64)) ∧ zs.length ≤ 1048576
theorem Pm.ne {w : World} {b g : Nat} {zs : List Int} (h : Pm w b g zs) : b ≠ g := h.1.ne h.2.1 (by decide)
theorem Pm.below {w w' : World} {b g : Nat} {zs : List Int} (h : Pm w b g zs) (k : Below w.heap.size w w') : Pm w' b g zs := ⟨h.1.below k, h.2.1.below k, h.2.2⟩
theorem Pm.drewN {w : World} {b g : Nat} {zs : List Int} (h : Pm w b g zs) (n : Nat) : Pm (w.drewN n) b g zs := h
theorem Pm.keep {w w' : World} {b g r : Nat} {zs : List Int} (h : Pm w b g zs) (k : w.grownBy w' (some r)) (hb : b ≠ r) (hg : g ≠ r) : Pm w' b g zs := ⟨h.1.keep k (by simpa using hb), h.2.1.keep k (by simpa using hg), h.2.2⟩
theorem Pm.len {w : World} {b g : Nat} {zs : List Int} (h : Pm w b g zs) : w.cell? ⟨b, 0, none⟩ = some (.int .i64 zs.length) := by rw [h.1.cell]; rfl
theorem Pm.row {w : World} {b g : Nat} {zs : List Int} (h : Pm w b g zs) : w.cell? ⟨b, 1, none⟩ = some (.slice (some ⟨g, 0, none⟩) zs.length zs.length) := by rw [h.1.cell]; rfl
theorem Pm.word {w : World} {b g : Nat} {zs : List Int} (h : Pm w b g zs) (i : Nat) (hi : i < zs.length) : w.cell? ⟨g, i, none⟩ = some (.int .u64 (wd zs i)) := by rw [h.2.1.cell]; simp [hi, wd]
theorem Pm.free {w : World} {b g : Nat} {zs : List Int} (h : Pm w b g zs) (i : Nat) : w.frozen? ⟨g, i, none⟩ = false := h.2.1.free i
theorem Pm.set {w : World} {b g : Nat} {zs : List Int} (h : Pm w b g zs) (i : Nat) (u : Int) : Pm (w.setCell ⟨g, i, none⟩ (.int .u64 u)) b g (zs.set i u) := by
  refine ⟨?_, ?_, by simpa using h.2.2⟩
  · have := h.1.far (p := ⟨g, i, none⟩) h.ne (.int .u64 u)
    simpa using this
  · have := h.2.1.set i (.int .u64 u)
    simpa [List.map_set] using this

/-- Is there an address? -/
def hasv (n : Nat) (a : Int) : Bool := decide (0 ≤ a) && decide (a < n)
/-- The word at an address; the words behind a store. -/
def ldv (zs : List Int) (a : Int) : Int := if 0 ≤ a then wd zs a.toNat else 0
def stv (zs : List Int) (a u : Int) : List Int := if 0 ≤ a then zs.set a.toNat u else zs
theorem hasv_cases (n : Nat) (a : Int) : (0 ≤ a ∧ a < n ∧ hasv n a = true) ∨ ((a < 0 ∨ (n : Int) ≤ a) ∧ hasv n a = false) := by
  unfold hasv
  by_cases h : 0 ≤ a <;> by_cases h1 : a < n <;> simp [h, h1] <;> omega
theorem ldv_in {zs : List Int} {a : Int} (h : 0 ≤ a) : ldv zs a = wd zs a.toNat := if_pos h
theorem stv_in {zs : List Int} {a u : Int} (h : 0 ≤ a) : stv zs a u = zs.set a.toNat u := if_pos h
theorem ldv_out {zs : List Int} {a : Int} (h : a < 0 ∨ (zs.length : Int) ≤ a) : ldv zs a = 0 := by
  unfold ldv wd
  split
  · rw [List.getElem?_eq_none (by omega)]; rfl
  · rfl
theorem stv_out {zs : List Int} {a u : Int} (h : a < 0 ∨ (zs.length : Int) ≤ a) : stv zs a u = zs := by
  unfold stv
  split
  · rw [List.set_eq_of_length_le (by omega)]
  · rfl
theorem stv_len (zs : List Int) (a u : Int) : (stv zs a u).length = zs.length := by unfold stv; split <;> simp

theorem has_any' (n a : Int) (w : World) :
    Calls Try.prog 137 #[.agg #[.int .i64 n], .int .i64 a] w fun e w' => e = .returned (.bool (decide (0 ≤ a) && decide (a < n))) ∧ Below w.heap.size w w' := by
  by_cases h : 0 ≤ a
  · have e0 : decide (0 ≤ a) = true := by simpa using h
    go_enter Try.func137, Try.ntmps137
    go_wp2
    go_ret
    exact ⟨ret_bool (by simp [e0]), (Below.refl _ _).alloc (Nat.le_refl _) _⟩
  · have e0 : decide (0 ≤ a) = false := by simpa using h
    clear h
    go_enter Try.func137, Try.ntmps137
    go_wp2
    go_ret
    exact ⟨ret_bool (by simp [e0]), (Below.refl _ _).alloc (Nat.le_refl _) _⟩
theorem has_any (n : Nat) (a : Int) (w : World) :
    Calls Try.prog 137 #[.agg #[.int .i64 n], .int .i64 a] w fun e w' => e = .returned (.bool (hasv n a)) ∧ Below w.heap.size w w' := has_any' n a w

theorem load_any (a : Int) (b g : Nat) (zs : List Int) (w : World) (h : Pm w b g zs) :
    Calls Try.prog 87 #[.pointer (some ⟨b, 0, none⟩), .int .i64 a] w fun e w' => e = .returned (.int .u64 (ldv zs a)) ∧ Below w.heap.size w w' := by
  have h1 := h.len
  have h2 := h.row
  have H := Lib.hid h
  have hm := h.2.2
  clear h
  rcases hasv_cases zs.length a with ⟨i0, i1, hh⟩ | ⟨ho, hh⟩
  · have Hr := Lib.hid (ldv_in (zs := zs) i0)
    have Hh := Lib.hid hh
    clear hh
    go_enter Try.func87, Try.ntmps87
    go_wp2_with fail
    refine (has_any _ _ _).mono ?_
    rintro e w1 ⟨rfl, hB⟩
    rw [Hh.out]
    have g1 := (H.out.below hB).len
    have g2 := (H.out.below hB).row
    have g3 := (H.out.below hB).word a.toNat (by omega)
    have HB := Lib.hid hB
    clear hB h1 h2
    go_wp2_with fail
    go_ret
    exact ⟨ret_int Hr.out.symm, HB.out⟩
  · have Hr := Lib.hid (ldv_out (zs := zs) ho)
    have Hh := Lib.hid hh
    clear hh
    go_enter Try.func87, Try.ntmps87
    go_wp2_with fail
    refine (has_any _ _ _).mono ?_
    rintro e w1 ⟨rfl, hB⟩
    rw [Hh.out]
    have HB := Lib.hid hB
    clear hB
    go_wp2_with fail
    go_ret
    exact ⟨ret_int Hr.out.symm, HB.out⟩


theorem store_any (a u : Int) (b g : Nat) (zs : List Int) (w : World) (h : Pm w b g zs) :
    Calls Try.prog 68 #[.pointer (some ⟨b, 0, none⟩), .int .i64 a, .int .u64 u] w fun e w' => e = .returned (.tuple #[]) ∧ Pm w' b g (stv zs a u) ∧ w.grownBy w' (some g) := by
  have h1 := h.len
  have h2 := h.row
  have H := Lib.hid h
  have hm := h.2.2
  clear h
  rcases hasv_cases zs.length a with ⟨i0, i1, hh⟩ | ⟨ho, hh⟩
  · have Hr := Lib.hid (stv_in (zs := zs) (u := u) i0)
    have Hh := Lib.hid hh
    clear hh
    go_enter Try.func68, Try.ntmps68
    go_wp2_with fail
    refine (has_any _ _ _).mono ?_
    rintro e w1 ⟨rfl, hB⟩
    rw [Hh.out]
    have g1 := (H.out.below hB).len
    have g2 := (H.out.below hB).row
    have g3 := (H.out.below hB).word a.toNat (by omega)
    have g4 := (H.out.below hB).free a.toNat
    have HB := Lib.hid hB
    clear hB h1 h2
    go_wp2_with fail
    go_end0
    exact ⟨rfl, by rw [Hr.out]; exact (H.out.below HB.out).set _ _, gb_set (gb_below HB.out _) _ _⟩
  · have Hr := Lib.hid (stv_out (zs := zs) (u := u) ho)
    have Hh := Lib.hid hh
    clear hh
    go_enter Try.func68, Try.ntmps68
    go_wp2_with fail
    refine (has_any _ _ _).mono ?_
    rintro e w1 ⟨rfl, hB⟩
    rw [Hh.out]
    have HB := Lib.hid hB
    clear hB
    go_wp2_with fail
    go_end0
    exact ⟨rfl, by rw [Hr.out]; exact H.out.below HB.out, gb_below HB.out _⟩

/-- Is that word there? The words behind a CAS; behind an Add; what an Add tells. -/
def casb (zs : List Int) (a o : Int) : Bool := hasv zs.length a && (ldv zs a == o)
def casv (zs : List Int) (a o u : Int) : List Int := if casb zs a o = true then stv zs a u else zs
def addw (zs : List Int) (a d : Int) : Int := if hasv zs.length a = true then IntKind.u64.wrap (ldv zs a + d) else 0
def addv (zs : List Int) (a d : Int) : List Int := stv zs a (addw zs a d)

theorem cas_any (a o u : Int) (b g : Nat) (zs : List Int) (w : World) (h : Pm w b g zs) :
    Calls Try.prog 226 #[.pointer (some ⟨b, 0, none⟩), .int .i64 a, .int .u64 o, .int .u64 u] w fun e w' => e = .returned (.bool (casb zs a o)) ∧ Pm w' b g (casv zs a o u) ∧ w.grownBy w' (some g) := by
  have h1 := h.len
  have h2 := h.row
  have H := Lib.hid h
  have hm := h.2.2
  clear h
  rcases hasv_cases zs.length a with ⟨i0, i1, hh⟩ | ⟨ho, hh⟩
  · have Hl := Lib.hid (ldv_in (zs := zs) i0)
    have Hh := Lib.hid hh
    clear hh
    by_cases hw : wd zs a.toNat = o
    · have Hc := Lib.hid (show casb zs a o = true by unfold casb; rw [Hh.out, Hl.out, hw]; simp)
      have Hr := Lib.hid (show casv zs a o u = zs.set a.toNat u by unfold casv; rw [if_pos Hc.out, stv_in i0])
      have hb : (wd zs a.toNat != o) = false := by simp [hw]
      clear hw
      go_enter Try.func226, Try.ntmps226
      go_wp2_with fail
      refine (has_any _ _ _).mono ?_
      rintro e w1 ⟨rfl, hB⟩
      rw [Hh.out]
      have g1 := (H.out.below hB).len
      have g2 := (H.out.below hB).row
      have g3 := (H.out.below hB).word a.toNat (by omega)
      have g4 := (H.out.below hB).free a.toNat
      have HB := Lib.hid hB
      clear hB h1 h2
      go_wp2_with fail
      go_ret
      exact ⟨ret_bool Hc.out.symm, by rw [Hr.out]; exact (H.out.below HB.out).set _ _, gb_set (gb_below HB.out _) _ _⟩
    · have Hc := Lib.hid (show casb zs a o = false by unfold casb; rw [Hh.out, Hl.out]; simp [hw])
      have Hr := Lib.hid (show casv zs a o u = zs by unfold casv; rw [Hc.out]; rfl)
      have hb : (wd zs a.toNat != o) = true := by simp [hw]
      clear hw
      go_enter Try.func226, Try.ntmps226
      go_wp2_with fail
      refine (has_any _ _ _).mono ?_
      rintro e w1 ⟨rfl, hB⟩
      rw [Hh.out]
      have g1 := (H.out.below hB).len
      have g2 := (H.out.below hB).row
      have g3 := (H.out.below hB).word a.toNat (by omega)
      have g4 := (H.out.below hB).free a.toNat
      have HB := Lib.hid hB
      clear hB h1 h2
      go_wp2_with fail
      go_ret
      exact ⟨ret_bool Hc.out.symm, by rw [Hr.out]; exact H.out.below HB.out, gb_below HB.out _⟩
  · have Hh := Lib.hid hh
    have Hc := Lib.hid (show casb zs a o = false by unfold casb; rw [hh]; rfl)
    have Hr := Lib.hid (show casv zs a o u = zs by unfold casv; rw [Hc.out]; rfl)
    clear hh
    go_enter Try.func226, Try.ntmps226
    go_wp2_with fail
    refine (has_any _ _ _).mono ?_
    rintro e w1 ⟨rfl, hB⟩
    rw [Hh.out]
    have HB := Lib.hid hB
    clear hB
    go_wp2_with fail
    go_ret
    exact ⟨ret_bool Hc.out.symm, by rw [Hr.out]; exact H.out.below HB.out, gb_below HB.out _⟩

theorem add_any (a d : Int) (b g : Nat) (zs : List Int) (w : World) (h : Pm w b g zs) :
    Calls Try.prog 225 #[.pointer (some ⟨b, 0, none⟩), .int .i64 a, .int .u64 d] w fun e w' => e = .returned (.int .u64 (addw zs a d)) ∧ Pm w' b g (addv zs a d) ∧ w.grownBy w' (some g) := by
  have h1 := h.len
  have h2 := h.row
  have H := Lib.hid h
  have hm := h.2.2
  clear h
  rcases hasv_cases zs.length a with ⟨i0, i1, hh⟩ | ⟨ho, hh⟩
  · have Hl := Lib.hid (show addw zs a d = IntKind.u64.wrap (wd zs a.toNat + d) by unfold addw; rw [if_pos hh, ldv_in i0])
    have Hr := Lib.hid (show addv zs a d = zs.set a.toNat (IntKind.u64.wrap (wd zs a.toNat + d)) by unfold addv; rw [Hl.out, stv_in i0])
    have Hh := Lib.hid hh
    clear hh
    go_enter Try.func225, Try.ntmps225
    go_wp2_with fail
    refine (has_any _ _ _).mono ?_
    rintro e w1 ⟨rfl, hB⟩
    rw [Hh.out]
    have g1 := (H.out.below hB).len
    have g2 := (H.out.below hB).row
    have g3 := (H.out.below hB).word a.toNat (by omega)
    have g4 := (H.out.below hB).free a.toNat
    have gn : g ≠ b := (H.out.below hB).ne.symm
    have HB := Lib.hid hB
    clear hB h1 h2
    go_wp2_with fail
    go_ret
    exact ⟨ret_int Hl.out.symm, by rw [Hr.out]; exact (H.out.below HB.out).set _ _, gb_set (gb_below HB.out _) _ _⟩
  · have Hh := Lib.hid hh
    have Hl := Lib.hid (show addw zs a d = 0 by unfold addw; rw [hh]; rfl)
    have Hr := Lib.hid (show addv zs a d = zs by unfold addv; rw [stv_out ho])
    clear hh
    go_enter Try.func225, Try.ntmps225
    go_wp2_with fail
    refine (has_any _ _ _).mono ?_
    rintro e w1 ⟨rfl, hB⟩
    rw [Hh.out]
    have HB := Lib.hid hB
    clear hB
    go_wp2_with fail
    go_ret
    exact ⟨ret_int Hl.out.symm, by rw [Hr.out]; exact H.out.below HB.out, gb_below HB.out _⟩

end Go.Proofs.Yteheckcflnogbaa
