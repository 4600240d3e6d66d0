/-
  soughlaw22.plain: an operation asked of a Plain. soughref22.Mem: its contracts.
-/
import Derived.Test.YteheckcflnogbaaMem2
namespace Go.Proofs.Yteheckcflnogbaa
open Go.RowKit

/-- What an operation leaves, and tells. -/
def actv (zs : List Int) (k a x y : Int) : List Int := if k = 1 then zs else if k = 2 then stv zs a x else if k = 3 then casv zs a x y else addv zs a x
def actw (zs : List Int) (k a x : Int) : Int := if k = 1 then ldv zs a else if k = 2 then 0 else if k = 3 then 0 else addw zs a x
def actb (zs : List Int) (k a x : Int) : Bool := if k = 3 then casb zs a x else false

theorem ret_act {a b : Int} {p q : Bool} (h : a = b) (g : p = q) : Ending.returned (.tuple #[.int .u64 a, .bool p]) = .returned (.tuple #[.int .u64 b, .bool q]) := by rw [h, g]

theorem plen_any (b g : Nat) (zs : List Int) (w : World) (h : Pm w b g zs) :
    Calls Try.prog 227 #[.pointer (some ⟨b, 0, none⟩)] w fun e w' => e = .returned (.int .i64 zs.length) ∧ w' = w := by
  have h1 := h.len
  clear h
  go_enter Try.func227, Try.ntmps227
  go_wp2
  go_ret
  exact ⟨rfl, rfl⟩

/-- A soughref22.Mem at block b, its words in block g. -/
def Rm (w : World) (b g : Nat) (zs : List Int) : Prop :=
  Bk w b 73 [.slice (some ⟨g, 0, none⟩) zs.length zs.length] ∧ Bk w g 29 (zs.map (Value.int .u64)) ∧ zs.length ≤ 1048576
theorem Rm.ne {w : World} {b g : Nat} {zs : List Int} (h : Rm w b g zs) : b ≠ g := h.1.ne h.2.1 (by decide)
theorem Rm.below {w w' : World} {b g : Nat} {zs : List Int} (h : Rm w b g zs) (k : Below w.heap.size w w') : Rm w' b g zs := ⟨h.1.below k, h.2.1.below k, h.2.2⟩
theorem Rm.drewN {w : World} {b g : Nat} {zs : List Int} (h : Rm w b g zs) (n : Nat) : Rm (w.drewN n) b g zs := h
theorem Rm.keep {w w' : World} {b g r : Nat} {zs : List Int} (h : Rm w b g zs) (k : w.grownBy w' (some r)) (hb : b ≠ r) (hg : g ≠ r) : Rm w' b g zs := ⟨h.1.keep k (by simpa using hb), h.2.1.keep k (by simpa using hg), h.2.2⟩
theorem Rm.row {w : World} {b g : Nat} {zs : List Int} (h : Rm w b g zs) : w.cell? ⟨b, 0, none⟩ = some (.slice (some ⟨g, 0, none⟩) zs.length zs.length) := by rw [h.1.cell]; rfl
theorem Rm.word {w : World} {b g : Nat} {zs : List Int} (h : Rm w b g zs) (i : Nat) (hi : i < zs.length) : w.cell? ⟨g, i, none⟩ = some (.int .u64 (wd zs i)) := by rw [h.2.1.cell]; simp [hi, wd]
theorem Rm.free {w : World} {b g : Nat} {zs : List Int} (h : Rm w b g zs) (i : Nat) : w.frozen? ⟨g, i, none⟩ = false := h.2.1.free i
theorem Rm.set {w : World} {b g : Nat} {zs : List Int} (h : Rm w b g zs) (i : Nat) (u : Int) : Rm (w.setCell ⟨g, i, none⟩ (.int .u64 u)) b g (zs.set i u) := by
  refine ⟨?_, ?_, by simpa using h.2.2⟩
  · have := h.1.far (p := ⟨g, i, none⟩) h.ne (.int .u64 u)
    simpa using this
  · have := h.2.1.set i (.int .u64 u)
    simpa [List.map_set] using this

theorem rhas_any (a : Int) (b g : Nat) (zs : List Int) (w : World) (h : Rm w b g zs) :
    Calls Try.prog 169 #[.pointer (some ⟨b, 0, none⟩), .int .i64 a] w fun e w' => e = .returned (.bool (hasv zs.length a)) ∧ w' = w := by
  have h1 := h.row
  clear h
  by_cases h : 0 ≤ a
  · have e0 : decide (0 ≤ a) = true := by simpa using h
    go_enter Try.func169, Try.ntmps169
    go_wp2
    go_ret
    exact ⟨ret_bool (by simp [e0, hasv]), rfl⟩
  · have e0 : decide (0 ≤ a) = false := by simpa using h
    clear h
    go_enter Try.func169, Try.ntmps169
    go_wp2
    go_ret
    exact ⟨ret_bool (by simp [e0, hasv]), rfl⟩

end Go.Proofs.Yteheckcflnogbaa
