/-
  soughlaw22.plain: an operation asked of a Plain. soughref22.Mem: its contracts.
-/
import Derived.Test.YthidinalhbnmmaaMem2
namespace Go.Proofs.Ythidinalhbnmmaa
open Go.RowKit

/-- What an operation leaves, and tells. -/
def actv (zs : List Int) (k a x y : Int) : List Int := if k = 1 then zs else if k = 2 then stv zs a x else if k = 3 then casv zs a x y else addv zs a x
def actw (zs : List Int) (k a x : Int) : Int := if k = 1 then ldv zs a else if k = 2 then 0 else if k = 3 then 0 else addw zs a x
def actb (zs : List Int) (k a x : Int) : Bool := if k = 3 then casb zs a x else false

theorem ret_act {a b : Int} {p q : Bool} (h : a = b) (g : p = q) : Ending.returned (.tuple #[.int .u64 a, .bool p]) = .returned (.tuple #[.int .u64 b, .bool q]) := by rw [h, g]

set_option maxHeartbeats 800000 in
theorem plain_any (k a x y : Int) (b g : Nat) (zs : List Int) (w : World) (h : Pm w b g zs) :
    Calls Try.prog 19 #[.pointer (some ⟨b, 0, none⟩), .agg #[.int .i64 k, .int .i64 a, .int .u64 x, .int .u64 y]] w fun e w' => e = .returned (.tuple #[.int .u64 (actw zs k a x), .bool (actb zs k a x)]) ∧ Pm w' b g (actv zs k a x y) ∧ w.grownBy w' (some g) := by
  have hg : w.grownBy (w.alloc (.cells #[.int .i64 k, .int .i64 a, .int .u64 x, .int .u64 y] 30)) (some g) := World.grownBy_alloc _ _ _
  have h1 : Pm (w.alloc (.cells #[.int .i64 k, .int .i64 a, .int .u64 x, .int .u64 y] 30)) b g zs := h.below ((Below.refl _ _).alloc (Nat.le_refl _) _)
  have H := Lib.hid h1
  have G := Lib.hid hg
  clear h h1 hg
  by_cases e1 : k = 1
  · have Hv := Lib.hid (show actv zs k a x y = zs by unfold actv; rw [if_pos e1])
    have Hw := Lib.hid (show actw zs k a x = ldv zs a by unfold actw; rw [if_pos e1])
    have Hb := Lib.hid (show actb zs k a x = false by unfold actb; rw [if_neg (by omega)])
    have d1 : (k == 1) = true := by simp [e1]
    clear e1
    go_enter Try.func19, Try.ntmps19
    go_wp2_with fail
    refine (load_any _ _ _ _ _ H.out).mono ?_
    rintro e w1 ⟨rfl, hB⟩
    have HB := Lib.hid hB
    clear hB
    go_wp2_with fail
    go_ret2
    exact ⟨ret_act Hw.out.symm Hb.out.symm, by rw [Hv.out]; exact H.out.below HB.out, gb_trans G.out (gb_below HB.out _)⟩
  have d1 : (k == 1) = false := by simp [e1]
  by_cases e2 : k = 2
  · have Hv := Lib.hid (show actv zs k a x y = stv zs a x by unfold actv; rw [if_neg e1, if_pos e2])
    have Hw := Lib.hid (show actw zs k a x = 0 by unfold actw; rw [if_neg e1, if_pos e2])
    have Hb := Lib.hid (show actb zs k a x = false by unfold actb; rw [if_neg (by omega)])
    have d2 : (k == 2) = true := by simp [e2]
    clear e1 e2
    go_enter Try.func19, Try.ntmps19
    go_wp2_with fail
    refine (store_any _ _ _ _ _ _ H.out).mono ?_
    rintro e w1 ⟨rfl, hP, hB⟩
    have HB := Lib.hid hB
    have HP := Lib.hid hP
    clear hB hP
    go_wp2_with fail
    go_ret2
    exact ⟨ret_act Hw.out.symm Hb.out.symm, by rw [Hv.out]; exact HP.out, gb_trans G.out HB.out⟩
  have d2 : (k == 2) = false := by simp [e2]
  by_cases e3 : k = 3
  · have Hv := Lib.hid (show actv zs k a x y = casv zs a x y by unfold actv; rw [if_neg e1, if_neg e2, if_pos e3])
    have Hw := Lib.hid (show actw zs k a x = 0 by unfold actw; rw [if_neg e1, if_neg e2, if_pos e3])
    have Hb := Lib.hid (show actb zs k a x = casb zs a x by unfold actb; rw [if_pos e3])
    have d3 : (k == 3) = true := by simp [e3]
    clear e1 e2 e3
    go_enter Try.func19, Try.ntmps19
    go_wp2_with fail
    refine (cas_any _ _ _ _ _ _ _ H.out).mono ?_
    rintro e w1 ⟨rfl, hP, hB⟩
    have HB := Lib.hid hB
    have HP := Lib.hid hP
    clear hB hP
    go_wp2_with fail
    go_ret2
    exact ⟨ret_act Hw.out.symm Hb.out.symm, by rw [Hv.out]; exact HP.out, gb_trans G.out HB.out⟩
  have d3 : (k == 3) = false := by simp [e3]
  have Hv := Lib.hid (show actv zs k a x y = addv zs a x by unfold actv; rw [if_neg e1, if_neg e2, if_neg e3])
  have Hw := Lib.hid (show actw zs k a x = addw zs a x by unfold actw; rw [if_neg e1, if_neg e2, if_neg e3])
  have Hb := Lib.hid (show actb zs k a x = false by unfold actb; rw [if_neg e3])
  clear e1 e2 e3
  go_enter Try.func19, Try.ntmps19
  go_wp2_with fail
  refine (add_any _ _ _ _ _ _ H.out).mono ?_
  rintro e w1 ⟨rfl, hP, hB⟩
  have HB := Lib.hid hB
  have HP := Lib.hid hP
  clear hB hP
  go_wp2_with fail
  go_ret2
  exact ⟨ret_act Hw.out.symm Hb.out.symm, by rw [Hv.out]; exact HP.out, gb_trans G.out HB.out⟩

theorem plen_any (b g : Nat) (zs : List Int) (w : World) (h : Pm w b g zs) :
    Calls Try.prog 21 #[.pointer (some ⟨b, 0, none⟩)] w fun e w' => e = .returned (.int .i64 zs.length) ∧ w' = w := by
  have h1 := h.len
  clear h
  go_enter Try.func21, Try.ntmps21
  go_wp2
  go_ret
  exact ⟨rfl, rfl⟩

/-- A soughref22.Mem at block b, its words in block g. -/
def Rm (w : World) (b g : Nat) (zs : List Int) : Prop :=
  Bk w b 38 [.slice (some ⟨g, 0, none⟩) zs.length zs.length] ∧ Bk w g 28 (zs.map (Value.int .u64)) ∧ zs.length ≤ 1048576
theorem Rm.ne {w : World} {b g : Nat} {zs : List Int} (h : Rm w b g zs) : b ≠ g := h.1.ne h.2.1 (by decide)
theorem Rm.below {w w' : World} {b g : Nat} {zs : List Int} (h : Rm w b g zs) (k : Below w.heap.size w w') : Rm w' b g zs := ⟨h.1.below k, h.2.1.below k, h.2.2⟩
theorem Rm.drewN {w : World} {b g : Nat} {zs : List Int} (h : Rm w b g zs) (n : Nat) : Rm (w.drewN n) b g zs := h
theorem Rm.keep {w w' : World} {b g r : Nat} {zs : List Int} (h : Rm w b g zs) (k : w.grownBy w' (some r)) (hb : b ≠ r) (hg : g ≠ r) : Rm w' b g zs := ⟨h.1.keep k (by simpa using hb), h.2.1.keep k (by simpa using hg), h.2.2⟩
theorem Rm.row {w : World} {b g : Nat} {zs : List Int} (h : Rm w b g zs) : w.cell? ⟨b, 0, none⟩ = some (.slice (some ⟨g, 0, none⟩) zs.length zs.length) := by rw [h.1.cell]; rfl
theorem Rm.word {w : World} {b g : Nat} {zs : List Int} (h : Rm w b g zs) (i : Nat) (hi : i < zs.length) : w.cell? ⟨g, i, none⟩ = some (.int .u64 (wd zs i)) := by rw [h.2.1.cell]; simp [hi, wd]
theorem Rm.free {w : World} {b g : Nat} {zs : List Int} (h : Rm w b g zs) (i : Nat) : w.frozen? ⟨g, i, none⟩ = false := h.2.1.free i
theorem Rm.set {w : World} {b g : Nat} {zs : List Int} (h : Rm w b g zs) (i : Nat) (u : Int) : Rm (w.setCell ⟨g, i, none⟩ (.int .u64 u)) b g (zs.set i u) := by
  refine ⟨?_, ?_, by simpa using h.2.2⟩
  · have := h.1.far (p := ⟨g, i, none⟩) h.ne (.int .u64 u)
    simpa using this
  · have := h.2.1.set i (.int .u64 u)
    simpa [List.map_set] using this

theorem rhas_any (a : Int) (b g : Nat) (zs : List Int) (w : World) (h : Rm w b g zs) :
    Calls Try.prog 92 #[.pointer (some ⟨b, 0, none⟩), .int .i64 a] w fun e w' => e = .returned (.bool (hasv zs.length a)) ∧ w' = w := by
  have h1 := h.row
  clear h
  by_cases h : 0 ≤ a
  · have e0 : decide (0 ≤ a) = true := by simpa using h
    go_enter Try.func92, Try.ntmps92
    go_wp2
    go_ret
    exact ⟨ret_bool (by simp [e0, hasv]), rfl⟩
  · have e0 : decide (0 ≤ a) = false := by simpa using h
    clear h
    go_enter Try.func92, Try.ntmps92
    go_wp2
    go_ret
    exact ⟨ret_bool (by simp [e0, hasv]), rfl⟩

end Go.Proofs.Ythidinalhbnmmaa
